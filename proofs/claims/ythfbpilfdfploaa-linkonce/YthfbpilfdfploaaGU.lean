/- Parts of these proofs, laid together. -/
import Derived.Test.YthfbpilfdfploaaGT
import Derived.Test.YthfbpilfdfploaaGS
import Derived.Test.YthfbpilfdfploaaGF
import Derived.Lib.AppendZeros
import Derived.Laws.AppendOwnNone
import Derived.Maps.AppendAt
namespace Go.Proofs.Ythfbpilfdfploaa
open Go.RowKit
open Lk (St Two Dir)

def nt (s : Int) (k : Nat) : Nx := pk (ntF s k)
theorem nt_ok : Lk.NtOk CX nt := by
  refine ⟨fun f h1 h2 h3 h4 h5 h6 h7 h8 h9 h10 h11 h12 => ?_⟩
  show Nt.frB (unF f) = true
  have hr : ∀ n l h : Int, l ≤ n → n ≤ h → Nt.inB n l h = true := fun n l h a b => by unfold Nt.inB; rw [decide_eq_true a, decide_eq_true b]; rfl
  have key : Nt.inB (unF f).f 0 15 = true ∧ Nt.inB (unF f).t 0 15 = true ∧ decide ((unF f).f ≠ (unF f).t) = true ∧ Nt.cnB (unF f) = true ∧ Nt.fnB (unF f) = true := by
    refine ⟨hr _ _ _ (by show 0 ≤ f.f; omega) (by show f.f ≤ 15; omega), hr _ _ _ (by show 0 ≤ f.t; omega) (by show f.t ≤ 15; omega), decide_eq_true (by show f.f ≠ f.t; omega), ?_, ?_⟩
    · unfold Nt.cnB
      rw [hr _ _ _ (show 1 ≤ (unF f).e from h3) h4, hr _ _ _ (show 0 ≤ (unF f).s from h7) h8, hr _ _ _ (show 0 ≤ (unF f).a from h5) h6, hr _ _ _ (show 0 ≤ (unF f).c from h9) h10]; rfl
    · unfold Nt.fnB
      by_cases hs : f.s = 0
      · rw [if_pos (show (unF f).s = 0 from hs)]
        have : (unF f).n = Nt.zeroN := by show unP f.n = _; rw [h11 hs]; rfl
        rw [this]; decide
      · rw [if_neg (show ¬ (unF f).s = 0 from hs)]
        obtain ⟨k, hk, hn⟩ := h12 hs
        have hu : (unF f).n = ntF f.f k := by show unP f.n = _; rw [hn]; rfl
        rw [hu]
        show (Nt.ntB (ntF f.f k) && decide (Nt.ends1 (ntF f.f k) = f.f) && decide (Nt.ends2 (ntF f.f k) = f.t)) = true
        rw [h2]
        rcases h1 with e | e <;> rw [e] <;> (match k, hk with
          | 0, _ => decide
          | 1, _ => decide
          | 2, _ => decide
          | 3, _ => decide
          | 4, _ => decide
          | 5, _ => decide
          | 6, _ => decide
          | 7, _ => decide
          | n + 8, h => exact absurd h (by omega))
  unfold Nt.frB
  rw [key.1, key.2.1, key.2.2.1, key.2.2.2.1, key.2.2.2.2]; rfl
/- what is on its way: whose it is, to whom, and its note -/
def FrOk (s t : Nat) (f : Lk.Fr Nx) : Prop := f.f = (s : Int) ∧ f.t = (t : Int) ∧ (f.s ≠ 0 → ∃ k : Nat, k < 8 ∧ f.n = nt s k)
theorem fresh_s {l : St Nx} {f : Lk.Fr Nx} {now : Int} (h : (Lk.takeR CX l f now).2.1 = true) : f.s ≠ 0 := by
  rcases Lk.take_cases CX l f now with ⟨h1, _⟩ | ⟨_, _, _, ⟨_, h1, _⟩ | ⟨_, _, h1, _⟩ | ⟨_, h1, _⟩⟩
  · rw [h1] at h; cases h
  · rw [h1] at h; cases h
  · rw [h1] at h; cases h
  · exact h1
theorem FrOk.note {s t : Nat} {x : Mf} (h : FrOk s t x.fr) {l : St Nx} {now : Int} (hf : (Lk.takeR CX l x.fr now).2.1 = true) : ∃ k : Nat, k < 8 ∧ x.m.x = ntF s k := by
  obtain ⟨k, hk, e⟩ := h.2.2 (fresh_s hf)
  exact ⟨k, hk, pk_inj e⟩
/- both sides, with new lives -/
def Tw (l : Nat → St Nx) (now B : Int) (F : List (Lk.Fr Nx)) : Prop := Two CX nt now B (l 0) (l 1) F
theorem upd0 {α : Type} (f : Nat → α) (x : α) : upd f 0 x 0 = x ∧ upd f 0 x 1 = f 1 := ⟨rfl, rfl⟩
theorem upd1 {α : Type} (f : Nat → α) (x : α) : upd f 1 x 0 = f 0 ∧ upd f 1 x 1 = x := ⟨rfl, rfl⟩
theorem Tw.ep {l : Nat → St Nx} {now B : Int} {F : List (Lk.Fr Nx)} (h : Tw l now B F) {s : Nat} (hs : s < 2) : 1 ≤ (l s).ep ∧ (l s).ep ≤ B := by
  rcases two_cases hs with rfl | rfl
  · exact ⟨h.l.e1, h.l.e2⟩
  · exact ⟨h.r.e1, h.r.e2⟩
theorem Tw.send {l : Nat → St Nx} {now B : Int} {F : List (Lk.Fr Nx)} (h : Tw l now B F) {s k : Nat} (hs : s < 2) (hk : k < 8) : Tw (upd l s (Lk.sendS CX (l s) now [nt s k])) now (B + 1) F := by
  rcases two_cases hs with rfl | rfl
  · exact Two.sendA h hk
  · exact Two.sendB h hk
theorem Tw.tick {l : Nat → St Nx} {now B : Int} {F : List (Lk.Fr Nx)} (h : Tw l now B F) {s : Nat} (hs : s < 2) (ht : Ox.tmB now = true) : Tw (upd l s (Lk.tickS CX (l s) now)) now B (F ++ Lk.tickF CX (l s) now) := by
  rcases two_cases hs with rfl | rfl
  · exact Two.tickA h ht
  · exact Two.tickB h ht
theorem Tw.take {l : Nat → St Nx} {now B : Int} {F : List (Lk.Fr Nx)} (h : Tw l now B F) {s t : Nat} (hs : s < 2) (hst : s + t = 1) (hB : B ≤ 1000000) (ht : Ox.tmB now = true) {f : Lk.Fr Nx} (hf : f ∈ F) (hfs : f.f = (s : Int)) : Tw (upd l t (Lk.takeR CX (l t) f now).2.2) now B F := by
  rcases two_cases hs with rfl | rfl
  · obtain rfl : t = 1 := by omega
    exact Two.takeB nt_ok hB h ht hf hfs
  · obtain rfl : t = 0 := by omega
    exact Two.takeA nt_ok hB h ht hf hfs
theorem Tw.life {l : Nat → St Nx} {now B : Int} {F : List (Lk.Fr Nx)} (h : Tw l now B F) {s : Nat} (hs : s < 2) : Tw (upd l s (Lk.new (s : Int) (1 - (s : Int)) ((l s).ep + 1))) now (B + 1) F := by
  rcases two_cases hs with rfl | rfl
  · exact Two.lifeA h
  · exact Two.lifeB h
theorem Tw.mono {l : Nat → St Nx} {now B : Int} {F : List (Lk.Fr Nx)} (h : Tw l now B F) {now2 B2 : Int} (hn : now ≤ now2) (hb : B ≤ B2) : Tw l now2 B2 F := Two.mono h hn hb
theorem Tw.frames {l : Nat → St Nx} {now B : Int} {F G : List (Lk.Fr Nx)} (h : Tw l now B F) (hG : ∀ f ∈ G, f ∈ F) : Tw l now B G := Two.frames h hG
theorem Tw.frok {l : Nat → St Nx} {now B : Int} {F : List (Lk.Fr Nx)} (h : Tw l now B F) {f : Lk.Fr Nx} (hf : f ∈ F) : ∃ s t : Nat, s < 2 ∧ s + t = 1 ∧ FrOk s t f := by
  rcases h.w f hf with e | e
  · have hx := h.l.fr f hf e
    exact ⟨0, 1, by omega, by omega, e, hx.t, hx.n1⟩
  · have hx := h.r.fr f hf e
    exact ⟨1, 0, by omega, by omega, e, hx.t, hx.n1⟩
theorem Tw.tickok {l : Nat → St Nx} {now B : Int} {F : List (Lk.Fr Nx)} (h : Tw l now B F) {s t : Nat} (hs : s < 2) (hst : s + t = 1) (ht : Ox.tmB now = true) {f : Lk.Fr Nx} (hf : f ∈ Lk.tickF CX (l s) now) : FrOk s t f := by
  have h2 := h.tick hs ht
  obtain ⟨s', t', hs', hst', e1, e2, e3⟩ := h2.frok (List.mem_append_right F hf)
  have e4 : f.f = (s : Int) := by
    rcases two_cases hs with rfl | rfl
    · exact (Lk.tick_sent h.l hf).f
    · exact (Lk.tick_sent h.r hf).f
  have : s' = s := by omega
  subst this
  have : t' = t := by omega
  subst this
  exact ⟨e1, e2, e3⟩
/- without new lives: what was pushed and handed out -/
def pf (P : Nat → Int) (s : Nat) : Nat → Int := fun k => if k < 8 then P (s * 8 + k) else 0
structure On (l : Nat → St Nx) (F : List (Lk.Fr Nx)) (P H : Nat → Int) : Prop where
  d : ∀ s t : Nat, s + t = 1 → Dir CX nt (s : Int) (l s) (l t) F (pf P s) (pf H s)
  w : ∀ f ∈ F, f.f = 0 ∨ f.f = 1
theorem upd_id {α : Type} (f : Nat → α) (s : Nat) : upd f s (f s) = f := by
  funext t
  by_cases e : t = s
  · subst e; exact upd_same _ _ _
  · exact upd_other _ _ e
theorem on_new : On l0 [] (fun _ => 0) (fun _ => 0) := by
  refine ⟨fun s t h => ?_, by simp⟩
  rcases (show (s = 0 ∧ t = 1) ∨ (s = 1 ∧ t = 0) by omega) with ⟨rfl, rfl⟩ | ⟨rfl, rfl⟩
  · exact Lk.dir_new CX nt 0 _ _ (fun k => by unfold pf; split <;> rfl) (fun k => by unfold pf; split <;> rfl)
  · exact Lk.dir_new CX nt 1 _ _ (fun k => by unfold pf; split <;> rfl) (fun k => by unfold pf; split <;> rfl)
section
variable {l : Nat → St Nx} {F : List (Lk.Fr Nx)} {P H : Nat → Int}
theorem On.le (h : On l F P H) {s k : Nat} (hs : s < 2) (hk : k < 8) : H (s * 8 + k) ≤ P (s * 8 + k) ∧ 0 ≤ H (s * 8 + k) := by
  have hd := h.d s (1 - s) (by omega)
  have h1 := hd.le k
  obtain ⟨A, hA⟩ := hd.ex
  have h2 := hA.ha k
  unfold pf at h1 h2
  rw [if_pos hk, if_pos hk] at h1
  rw [if_pos hk] at h2
  exact ⟨h1, by omega⟩
theorem On.ep (h : On l F P H) {s : Nat} (hs : s < 2) : (l s).ep = 1 := (h.d s (1 - s) (by omega)).ep
theorem On.frok (h : On l F P H) {f : Lk.Fr Nx} (hf : f ∈ F) : ∃ s t : Nat, s < 2 ∧ s + t = 1 ∧ FrOk s t f := by
  rcases h.w f hf with e | e
  · have hx := (h.d 0 1 rfl).fr f hf e
    exact ⟨0, 1, by omega, by omega, e, hx.1, hx.2.2⟩
  · have hx := (h.d 1 0 rfl).fr f hf e
    exact ⟨1, 0, by omega, by omega, e, hx.1, hx.2.2⟩
theorem win_send (x : St Nx) (now : Int) (ns : List Nx) : Lk.win (Lk.sendS CX x now ns) = Lk.win x := by unfold Lk.sendS; split <;> rfl
theorem win_tick (x : St Nx) (now : Int) : Lk.win (Lk.tickS CX x now) = Lk.win x := by unfold Lk.tickS; split <;> rfl
theorem pf_upd {s t k : Nat} (hs : s < 2) (_ht : t < 2) (hk : k < 8) (n : Int) : pf (upd P (s * 8 + k) n) t = if t = s then (fun j => if j = k then n else pf P s j) else pf P t := by
  by_cases e : t = s
  · subst e
    rw [if_pos rfl]
    funext j
    unfold pf
    by_cases hj : j < 8
    · rw [if_pos hj, if_pos hj]
      by_cases e : j = k
      · subst e; rw [upd_same, if_pos rfl]
      · rw [if_neg e, upd_other _ _ (by omega)]
    · rw [if_neg hj, if_neg hj, if_neg (by omega)]
  · rw [if_neg e]
    funext j
    unfold pf
    by_cases hj : j < 8
    · rw [if_pos hj, if_pos hj, upd_other _ _ (by omega)]
    · rw [if_neg hj, if_neg hj]
theorem On.send (h : On l F P H) {s k : Nat} (hs : s < 2) (hk : k < 8) {now : Int} (hw : Ox.hasB okN (l s).it (nt s k) = false) (he : Lk.sendE CX (l s) now [nt s k] = 0) : On (upd l s (Lk.sendS CX (l s) now [nt s k])) F (upd P (s * 8 + k) (P (s * 8 + k) + 1)) H := by
  refine ⟨fun a b hab => ?_, h.w⟩
  rw [pf_upd hs (by omega) hk]
  by_cases e : a = s
  · subst e
    rw [if_pos rfl, upd_same, upd_other _ _ (by omega)]
    have := (h.d a b hab).send hk hw he
    have e2 : (fun j => if j = k then pf P a j + 1 else pf P a j) = (fun j => if j = k then P (a * 8 + k) + 1 else pf P a j) := by
      funext j
      by_cases e : j = k
      · subst e; rw [if_pos rfl, if_pos rfl]; unfold pf; rw [if_pos hk]
      · rw [if_neg e, if_neg e]
    rw [e2] at this
    exact this
  · obtain rfl : b = s := by omega
    rw [if_neg e, upd_same, upd_other _ _ e]
    exact (h.d a b hab).recv (win_send _ _ _)
theorem On.tick (h : On l F P H) {s : Nat} (hs : s < 2) (now : Int) : On (upd l s (Lk.tickS CX (l s) now)) (F ++ Lk.tickF CX (l s) now) P H := by
  have hf : ∀ f ∈ Lk.tickF CX (l s) now, f.f = (s : Int) := by
    intro f hf
    have hme := (h.d s (1 - s) (by omega)).me
    obtain ⟨_, ⟨rfl, _⟩ | ⟨x, _, rfl⟩⟩ := Lk.tick_mem hf
    · exact hme
    · exact hme
  refine ⟨fun a b hab => ?_, fun f hm => ?_⟩
  · by_cases e : a = s
    · subst e
      rw [upd_same, upd_other _ _ (by omega)]
      exact (h.d a b hab).tick now
    · obtain rfl : b = s := by omega
      rw [upd_same, upd_other _ _ e]
      refine ((h.d a b hab).recv (win_tick _ _)).frames (fun f hm hfa => ?_)
      rcases List.mem_append.1 hm with hm | hm
      · exact hm
      · have := hf f hm
        omega
  · rcases List.mem_append.1 hm with hm | hm
    · exact h.w f hm
    · have := hf f hm
      rcases two_cases hs with rfl | rfl
      · exact Or.inl this
      · exact Or.inr this
theorem On.frames (h : On l F P H) {G : List (Lk.Fr Nx)} (hG : ∀ f ∈ G, f ∈ F) : On l G P H := ⟨fun a b hab => (h.d a b hab).frames (fun f hf _ => hG f hf), fun f hf => h.w f (hG f hf)⟩
theorem ntF_inj {s : Int} {k j : Nat} (h : ntF s k = ntF s j) : k = j := by
  unfold ntF at h
  simp only [Nt.mk.injEq, List.cons.injEq, Prod.mk.injEq] at h
  omega
theorem On.take (h : On l F P H) {s t : Nat} (hst : s + t = 1) {now : Int} {x : Mf} (hf : x.fr ∈ F) (hfs : x.f = (s : Int)) {H2 : Nat → Int} (h0 : (Lk.takeR CX (l t) x.fr now).2.1 = false → H2 = H)
    (h1 : (Lk.takeR CX (l t) x.fr now).2.1 = true → ∃ k : Nat, k < 8 ∧ x.m.x = ntF s k ∧ ∃ n, (0 ≤ H (s * 8 + k) → H (s * 8 + k) ≤ 1000000 → n = H (s * 8 + k) + 1) ∧ H2 = upd H (s * 8 + k) n)
    (hP : ∀ j, j < 16 → P j ≤ 1000000) : On (upd l t (Lk.takeR CX (l t) x.fr now).2.2) F P H2 := by
  have hd := h.d s t hst
  have hd2 := h.d t s (by omega)
  have et : (t : Int) = 1 - (s : Int) := by omega
  rw [et] at hd2
  obtain ⟨k, hk, g1, g2⟩ := Lk.dir_take hd hd2 hf hfs now
  rw [← et] at g2
  refine ⟨fun a b hab => ?_, h.w⟩
  cases hfr : (Lk.takeR CX (l t) x.fr now).2.1 with
  | false =>
    rw [h0 hfr]
    rw [hfr] at g1
    have e2 : (fun j => if false = true ∧ j = k then pf H s j + 1 else pf H s j) = pf H s := by funext j; rw [if_neg (by simp)]
    rw [e2] at g1
    by_cases e : a = s
    · subst e
      obtain rfl : b = t := by omega
      rw [upd_same, upd_other _ _ (by omega)]
      exact g1
    · obtain rfl : b = s := by omega
      obtain rfl : a = t := by omega
      rw [upd_same, upd_other _ _ (by omega)]
      exact g2
  | true =>
    obtain ⟨k', hk', hx, n, hn, rfl⟩ := h1 hfr
    obtain ⟨hk8, hx2⟩ := hk hfr
    have hkk : k' = k := ntF_inj (hx.symm.trans (pk_inj hx2))
    subst hkk
    have hle := h.le (s := s) (k := k') (by omega) hk8
    have hn1 := hn hle.2 (Int.le_trans hle.1 (hP _ (by omega)))
    rw [pf_upd (by omega) (by omega) hk8]
    rw [hfr] at g1
    by_cases e : a = s
    · subst e
      obtain rfl : b = t := by omega
      rw [if_pos rfl, upd_same, upd_other _ _ (by omega)]
      have e2 : (fun j => if true = true ∧ j = k' then pf H a j + 1 else pf H a j) = (fun j => if j = k' then n else pf H a j) := by
        funext j
        by_cases e : j = k'
        · subst e; rw [if_pos ⟨rfl, rfl⟩, if_pos rfl, hn1]; unfold pf; rw [if_pos hk8]
        · rw [if_neg (fun h => e h.2), if_neg e]
      rw [e2] at g1
      exact g1
    · obtain rfl : b = s := by omega
      obtain rfl : a = t := by omega
      rw [if_neg e, upd_same, upd_other _ _ (by omega)]
      exact g2
end
end Go.Proofs.Ythfbpilfdfploaa
namespace Go.Proofs.Ythfbpilfdfploaa
open Go.RowKit

theorem tm_rng (a : Int) {b : Int} (hb : 0 < b) : -b < a.tmod b ∧ a.tmod b < b := by
  have h1 := Int.tmod_lt_of_pos a hb
  have h2 := Int.tmod_lt_of_pos (-a) hb
  rw [Int.neg_tmod] at h2
  exact ⟨by omega, h1⟩
theorem wrap_small {x : Int} (h1 : -1000000000000 ≤ x) (h2 : x ≤ 1000000000000) : wrap64 x = x := by
  rw [wrap64]
  omega
theorem side_of (a : Int) : ∃ s : Nat, s < 2 ∧ (wrap64 (a.tmod 2 + 2)).tmod 2 = (s : Int) := by
  have h := tm_rng a (b := 2) (by decide)
  rw [wrap_small (by omega) (by omega)]
  have h2 := tm_rng (a.tmod 2 + 2) (b := 2) (by decide)
  have h3 := Int.tmod_nonneg (a := a.tmod 2 + 2) 2 (by omega)
  exact ⟨((a.tmod 2 + 2).tmod 2).toNat, by omega, by omega⟩
theorem note_of (a : Int) : ∃ k : Nat, k < 8 ∧ (wrap64 (a.tmod 8 + 8)).tmod 8 = (k : Int) := by
  have h := tm_rng a (b := 8) (by decide)
  rw [wrap_small (by omega) (by omega)]
  have h2 := tm_rng (a.tmod 8 + 8) (b := 8) (by decide)
  have h3 := Int.tmod_nonneg (a := a.tmod 8 + 8) 8 (by omega)
  exact ⟨((a.tmod 8 + 8).tmod 8).toNat, by omega, by omega⟩
theorem wrap_small2 {x : Int} (h1 : -1000000000000 ≤ x) (h2 : x ≤ 1000000000000) : IntKind.i64.wrap x = x := by
  rw [IntKind.wrap_i64]
  omega
theorem note_of2 (a : Int) : ∃ k : Nat, k < 8 ∧ (IntKind.i64.wrap (a.tmod 8 + 8)).tmod 8 = (k : Int) := by
  have h := tm_rng a (b := 8) (by decide)
  obtain ⟨k, hk, e⟩ := note_of a
  rw [wrap_small (by omega) (by omega)] at e
  exact ⟨k, hk, by rw [wrap_small2 (by omega) (by omega)]; exact e⟩
/- frames are laid behind those on their way -/
section
variable {Z : Nat → Prop} {w0 w w' : World} {gp : Nat} {g : Nat → Nat} {l : Nat → Lk.St Nx} {vl : Nat → Int} {now : Int} {P H : Nat → Int} {ad : Option Addr} {cap : Nat} {D T : List Mf}
theorem pa_row {v v' : Value} {G : List Mf} (hl : Pl Z w0 w gp g l v D) (hc : PrC w gp g vl v now P H) (hG : ∀ x ∈ G, MnAt Z w x.m) (ho : w'.ownsRow w0.heap.size 28 12 v' G.length (G.flatMap fC)) (k : w.grownBy w' v.ownBlock) (hv : v'.ownBlock = v.ownBlock ∨ ∀ b, v'.ownBlock = some b → w.heap.size ≤ b) :
    ∃ Y ad' cap', v' = .slice ad' G.length cap' ∧ Pa Y w0 (w'.setCell ⟨gp, 4, none⟩ v') gp g l vl now P H ad' cap' G ∧ PrC w' gp g vl v now P H := by
  obtain ⟨Y, hY⟩ : ∃ Y : Nat → Prop, Y = fun b => Z b ∧ v'.ownBlock ≠ some b := ⟨_, rfl⟩
  have hy : ∀ b, b < w.heap.size → Z b → Y b := by
    intro b hb hz
    rw [hY]
    refine ⟨hz, fun e => ?_⟩
    rcases hv with h | h
    · exact (hl.rb b (h.symm.trans e)).1 hz
    · have := h b e; omega
  have hnb : ∀ b, v'.ownBlock = some b → ¬ Y b := fun b e => by rw [hY]; exact fun z => z.2 e
  have hyz : ∀ b, Y b → Z b := fun b e => by rw [hY] at e; exact e.1
  have hks : w.heap.size ≤ w'.heap.size := k.size
  have hng : ∀ s, s < 2 → ¬ Y (g s) := fun s hs z => (hl.pk s hs).nz (hyz _ z)
  have hrb : ∀ b, v'.ownBlock = some b → ¬ Y b ∧ b ≠ gp ∧ ∀ s, s < 2 → g s ≠ b := by
    intro b e
    refine ⟨hnb b e, ?_⟩
    rcases hv with h | h
    · exact (hl.rb b (h.symm.trans e)).2
    · have h1 := h b e
      have h2 := hl.lx
      exact ⟨by omega, fun s hs => by have := hl.lt hs; omega⟩
  have hfr : Frs Y w' := by
    intro b hb
    rw [hY]
    exact ⟨hl.fr b (Nat.le_trans hks hb), fun e => by have := (ho.lt b e).2; omega⟩
  have main : (∀ s, s < 2 → PkAt Y w' (g s) (l s)) ∧ (∀ x ∈ G, MnAt Y w' x.m) ∧ Gr w0 w' ∧ PrC w' gp g vl v now P H := by
    cases e : v.ownBlock with
    | none =>
      rw [e] at k
      have hgr : Gr w w' := (Gr.refl w).grown k (fun _ e => by cases e)
      exact ⟨fun s hs => ((hl.pk s hs).turn hy (hng s hs)).gr hgr, fun x hx => ((hG x hx).turn hy).gr hgr, hl.gr.trans hgr, hc.gr hgr⟩
    | some b =>
      rw [e] at k
      have hgb : GB b w w' := ⟨k⟩
      have hb := hl.rb b e
      have hby : ¬ Y b := fun z => hb.1 (hyz _ z)
      exact ⟨fun s hs => ((hl.pk s hs).turn hy (hng s hs)).gb hgb hby (hb.2.2 s hs), fun x hx => ((hG x hx).turn hy).gb hgb hby, hl.gr.gb hgb (hl.fx.own.lt b e).1, hc.gb hgb hb.2.1.symm⟩
  obtain ⟨m1, m2, m3, m4⟩ := main
  have hfx : Fxs Y w' w0.heap.size v' G := ⟨ho, m2, fun x hx hn a e e2 => hnb _ e2 ((m2 x hx).hz hn a e)⟩
  have hpl : Pl Y w0 w' gp g l v' G := ⟨m1, hl.ne, hl.np, hl.lg, hl.lp, Nat.lt_of_lt_of_le hl.lx hks, hfr, m3, hfx, fun z => hl.zp (hyz _ z), hrb⟩
  obtain ⟨ad', cap', rfl, _⟩ := hfx.at
  exact ⟨Y, ad', cap', rfl, ⟨hpl.pair (gb_set gp 4 w' _), m4.setF _⟩, m4⟩
end
theorem tick_len (x : Lk.St Nx) (now : Int) : (Lk.tickF CX x now).length ≤ 12 := by
  unfold Lk.tickF
  split
  · split
    · split <;> simp
    · rw [List.length_map]; exact due_len
  · simp
theorem fxs_row {Z : Nat → Prop} {w : World} {base : Nat} {a : Option Addr} {c : Nat} {D : List Mf} (h : Fxs Z w base (.slice a D.length c) D) : RowAt fC w a D ∧ (a = none → c = 0) := by
  obtain ⟨_, _, e, _, _, hit, _⟩ := h.at
  cases e
  refine ⟨hit.row, fun e => ?_⟩
  subst e
  rcases h.own.2 with ⟨e, _⟩ | ⟨_, _, _, e, _⟩
  · simp at e; exact e.2
  · simp at e
/- an append of frames at a step of a drawn region -/
theorem step_append_at {P : Program} {w : World} {ops : Array Oper} {o : Oper} {a : Act} {K : Act → World → Prop} {Q : Exit → Act → World → Prop} {E : Prop} (hgd : o.guard = none) (s x : Operand) (t : TypeId)
    (ho : o.op = .call { callee := .builtin .append, args := #[s, x], argTypes := #[t, t] })
    (base : Nat) (e : TypeId) (i : TypeInfo) (z : Value) (size bytes : Nat) (ht : P.underlying t = some (.slice e)) (hi : P.info? e = some i) (hz : i.zero = some z)
    (hsize : i.size = size) (hby : i.bytes = bytes) (hzs : z.cells.size = size) (hsz : 0 < size)
    (v : Value) (n : Nat) (xs : List Value) (hs : a.eval s = v) (hown : w.ownsRow base e size v n xs)
    {α : Type} {f : α → List Value} (hf : ∀ x, (f x).length = size) (L : List α) (ad : Option Addr) (c : Nat) (hx : a.eval x = .slice ad L.length c) (hc : ad = none → c = 0) (row : RowAt f w ad L) (h1 : ∀ u ∈ L.flatMap f, u.oneCell' = true)
    (h63 : n + L.length ≤ maxLen) (hbytes : (n + L.length) * bytes ≤ 140737488355328) (hbase : base ≤ w.heap.size)
    (h : ∀ v' w', w'.ownsRow base e size v' (n + L.length) (xs ++ L.flatMap f) → w.grownBy w' v.ownBlock → (v'.ownBlock = v.ownBlock ∨ v'.ownBlock = some w.heap.size) → K (a.put o.dst v') w') :
    if Region.wanted o (yielded ops a.tmps) = true then Oper.wp P o a w K Q else E := by
  rw [if_pos (by simp [Region.wanted, hgd])]
  cases ad with
  | none =>
    have hL := RowAt.none hf hsz row
    subst hL
    obtain rfl := hc rfl
    have hrun := run_append_owned_none (P := P) (w := w) base t o.type e i size ht hi v n xs hown
    unfold Oper.wp
    simp only [List.length_nil] at hx
    simp [execOp, ho, resolve, invoke, builtin, hs, hx, hrun, Result.andThen]
    exact h v w (by simpa using hown) ⟨rfl, rfl, rfl, Nat.le_refl _, fun _ _ _ => rfl⟩ (Or.inl rfl)
  | some ad =>
    obtain ⟨v', w', hr, h2, h3, _, h5⟩ := run_append_own_at (P := P) w base t o.type e i z size bytes ht hi hz hsize hby hzs hsz v n xs hown ad L.length c (L.flatMap f) (flat_len hf L) row.news h1 h63 hbytes hbase
    unfold Oper.wp execOp
    simp only [ho, resolve, invoke, builtin, Sem.run_bind, Sem.run_pure, Result.andThen_ok, List.map_toArray, List.map_cons, List.map_nil, hs, hx, hr]
    exact h v' w' h2 h3 h5
end Go.Proofs.Ythfbpilfdfploaa
namespace Go.Proofs.Ythfbpilfdfploaa
open Go.RowKit
open Lk (St)

theorem send_ep (l : St Nx) (now : Int) (ns : List Nx) : (Lk.sendS CX l now ns).ep = l.ep := by unfold Lk.sendS; split <;> rfl
theorem tick_ep (l : St Nx) (now : Int) : (Lk.tickS CX l now).ep = l.ep := by unfold Lk.tickS; split <;> rfl
theorem take_ep (l : St Nx) (f : Lk.Fr Nx) (now : Int) : (Lk.takeR CX l f now).2.2.ep = l.ep := by
  rcases Lk.take_cases CX l f now with ⟨_, h⟩ | ⟨_, _, _, ⟨_, _, h⟩ | ⟨_, _, _, h⟩ | ⟨_, _, h⟩⟩
  · rw [h]
  · rw [h]; exact learn_ep l f.e now
  · rw [h]; exact learn_ep l f.e now
  · rw [h]
    unfold Lk.lay
    split <;> exact learn_ep l f.e now
theorem upd_ep {l : Nat → St Nx} {vl : Nat → Int} {s : Nat} {x : St Nx} (h : ∀ t, t < 2 → vl t = (l t).ep) (hx : x.ep = (l s).ep) : ∀ t, t < 2 → vl t = (upd l s x t).ep := by
  intro t ht
  by_cases e : t = s
  · subst e; rw [upd_same, hx]; exact h t ht
  · rw [upd_other _ _ e]; exact h t ht
section
variable {Z : Nat → Prop} {w0 w w' : World} {gp : Nat} {g : Nat → Nat} {l : Nat → St Nx} {vl : Nat → Int} {now : Int} {P H : Nat → Int} {ad : Option Addr} {cap : Nat} {D : List Mf}
theorem pa_life (h : Pa Z w0 w gp g l vl now P H ad cap D) {s : Nat} (hs : s < 2) {gn : Nat} {x : St Nx} (hw : Gr w w') (hn : ∀ Z, ¬ Z gn → PkAt Z w' gn x) (hb : w.heap.size ≤ gn) : Pa (Bt Z gn) w0 (w'.setCell ⟨gp, s, none⟩ (.pointer (some ⟨gn, 0, none⟩))) gp (upd g s gn) (upd l s x) vl now P H ad cap D := by
  have hp := hn (Bt Z gn) Bt.no
  have hlt := hp.lt
  have hlx := h.pl.lx
  have hl0 := h.pl.lt (s := 0) (by omega)
  have hl1 := h.pl.lt (s := 1) (by omega)
  have hsz := hw.size
  have hy : ∀ c, c < w.heap.size → Z c → Bt Z gn c := fun c hc hz => ⟨hz, by omega⟩
  refine ⟨Pl.pair (w := w') ⟨fun t ht => ?_, ?_, fun t ht => ?_, fun t ht => ?_, h.pl.lp, Nat.lt_of_lt_of_le hlx hsz, Bt.frs h.pl.fr hsz hlt, h.pl.gr.trans hw, (h.pl.fx.turn hy).gr hw, fun k => h.pl.zp k.1, fun k e => ⟨fun z => (h.pl.rb k e).1 z.1, (h.pl.rb k e).2.1, fun t ht => ?_⟩⟩ (gb_set gp s w' _), (h.pc.gr hw).setK hs gn⟩
  · by_cases e : t = s
    · subst e; rw [upd_same, upd_same]; exact hp
    · rw [upd_other _ _ e, upd_other _ _ e]; exact ((h.pl.pk t ht).turn hy (fun k => (h.pl.pk t ht).nz k.1)).gr hw
  · rcases two_cases hs with rfl | rfl
    · show gn ≠ g 1; omega
    · show g 0 ≠ gn; omega
  · by_cases e : t = s
    · subst e; rw [upd_same]; omega
    · rw [upd_other _ _ e]; exact h.pl.np t ht
  · by_cases e : t = s
    · subst e; rw [upd_same]; exact Nat.le_trans h.pl.gr.size hb
    · rw [upd_other _ _ e]; exact h.pl.lg t ht
  · have hk := (h.pl.fx.own.lt k e).2
    by_cases e : t = s
    · subst e; rw [upd_same]; omega
    · rw [upd_other _ _ e]; exact (h.pl.rb k ‹_›).2.2 t ht
/- the cells that a take of a frame on its way reads -/
theorem hold_tk {S : Nat → Prop} {a b : World} {p q gp : Nat} (k : KB S a b) (hp : p < a.heap.size) (hq : q < a.heap.size) (sp : ¬ S p) (sq : ¬ S q) {v4 x3 v0c v1c v2c v3c v4c v5c v6c v7c v8c v9c v10c v11c : Value} {i3 j0 j1 j2 j3 j4 j5 j6 j7 j8 j9 j10 j11 : Nat} (h4 : b.cell? ⟨gp, 4, none⟩ = some v4) (h3 : a.cell? ⟨p, i3, none⟩ = some x3) (c0 : a.cell? ⟨q, j0, none⟩ = some v0c) (c1 : a.cell? ⟨q, j1, none⟩ = some v1c) (c2 : a.cell? ⟨q, j2, none⟩ = some v2c) (c3 : a.cell? ⟨q, j3, none⟩ = some v3c) (c4 : a.cell? ⟨q, j4, none⟩ = some v4c) (c5 : a.cell? ⟨q, j5, none⟩ = some v5c) (c6 : a.cell? ⟨q, j6, none⟩ = some v6c) (c7 : a.cell? ⟨q, j7, none⟩ = some v7c) (c8 : a.cell? ⟨q, j8, none⟩ = some v8c) (c9 : a.cell? ⟨q, j9, none⟩ = some v9c) (c10 : a.cell? ⟨q, j10, none⟩ = some v10c) (c11 : a.cell? ⟨q, j11, none⟩ = some v11c) :
    b.cell? ⟨gp, 4, none⟩ = some v4 ∧ b.cell? ⟨p, i3, none⟩ = some x3 ∧ b.cell? ⟨q, j0, none⟩ = some v0c ∧ b.cell? ⟨q, j1, none⟩ = some v1c ∧ b.cell? ⟨q, j2, none⟩ = some v2c ∧ b.cell? ⟨q, j3, none⟩ = some v3c ∧ b.cell? ⟨q, j4, none⟩ = some v4c ∧ b.cell? ⟨q, j5, none⟩ = some v5c ∧ b.cell? ⟨q, j6, none⟩ = some v6c ∧ b.cell? ⟨q, j7, none⟩ = some v7c ∧ b.cell? ⟨q, j8, none⟩ = some v8c ∧ b.cell? ⟨q, j9, none⟩ = some v9c ∧ b.cell? ⟨q, j10, none⟩ = some v10c ∧ b.cell? ⟨q, j11, none⟩ = some v11c :=
  ⟨h4, k.cell _ _ _ hp sp h3, k.cell _ _ _ hq sq c0, k.cell _ _ _ hq sq c1, k.cell _ _ _ hq sq c2, k.cell _ _ _ hq sq c3, k.cell _ _ _ hq sq c4, k.cell _ _ _ hq sq c5, k.cell _ _ _ hq sq c6, k.cell _ _ _ hq sq c7, k.cell _ _ _ hq sq c8, k.cell _ _ _ hq sq c9, k.cell _ _ _ hq sq c10, k.cell _ _ _ hq sq c11⟩
end
end Go.Proofs.Ythfbpilfdfploaa
