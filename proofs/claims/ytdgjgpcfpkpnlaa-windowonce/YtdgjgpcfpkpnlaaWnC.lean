
/- window: goOn. -/
import Derived.Test.YtdgjgpcfpkpnlaaWnB
import Derived.WalkMore
namespace Go.Proofs.Ytdgjgpcfpkpnlaa
open Go.RowKit
open Wn (Wd)

/- a struct of two cells that may be written -/
structure Bx2 (w : World) (g : Nat) (a b : Value) : Prop where
  c0 : w.cell? ⟨g, 0, none⟩ = some a
  c1 : w.cell? ⟨g, 1, none⟩ = some b
  f0 : w.frozen? ⟨g, 0, none⟩ = false
  f1 : w.frozen? ⟨g, 1, none⟩ = false
  lt : g < w.heap.size
theorem Bx2.gr {w w' : World} {g : Nat} {a b : Value} (h : Bx2 w g a b) (k : Gr w w') : Bx2 w' g a b :=
  ⟨k.keep h.c0, k.keep h.c1, k.keepF h.lt h.f0, k.keepF h.lt h.f1, Nat.lt_of_lt_of_le h.lt k.size⟩
theorem Bx2.new (w : World) (a b : Value) (t : TypeId) (g : Nat) (hg : g = w.heap.size) : Bx2 (w.alloc (.cells #[a, b] t)) g a b := by
  subst hg
  exact ⟨by simp, by simp, by simp [go_sem], by simp [go_sem], by simp⟩
theorem Bx2.set0 {w : World} {g : Nat} {a b : Value} (h : Bx2 w g a b) (x : Value) : Bx2 (w.setCell ⟨g, 0, none⟩ x) g x b := by
  obtain ⟨h0, h1, f0, f1, hl⟩ := h
  exact ⟨by simp [go_sem, *], by simp [go_sem, *], by simp [go_sem, *], by simp [go_sem, *], by simpa using hl⟩
theorem Bx2.far {w : World} {g k : Nat} {a b : Value} (h : Bx2 w g a b) (hk : k ≠ g) (o : Nat) (x : Value) : Bx2 (w.setCell ⟨k, o, none⟩ x) g a b := by
  obtain ⟨h0, h1, f0, f1, hl⟩ := h
  exact ⟨by rw [World.cell?_setCell_far _ _ _ _ (by simpa using hk)]; exact h0, by rw [World.cell?_setCell_far _ _ _ _ (by simpa using hk)]; exact h1, by simp [go_sem, *], by simp [go_sem, *], by simpa using hl⟩
theorem IntsAt.set {w : World} {ad : Option Addr} {l : List Int} (h : IntsAt w ad l) (p : Addr) (v : Value) (hp : ∀ a, ad = some a → p.block ≠ a.block) : IntsAt (w.setCell p v) ad l := by
  intro j hj
  obtain ⟨b, off, e, hb, hc⟩ := h j hj
  exact ⟨b, off, e, by simpa using hb, by rw [World.cell?_setCell_far _ _ _ _ (by simpa using hp _ e)]; exact hc⟩
theorem slice_from (b off n cap c : Nat) (hc : c < n) (hn : n ≤ cap) (W : World) :
    (Instr.sliceAt 22 (.slice (some ⟨b, off, none⟩) n cap) (some (.int .i64 c)) none none).run Try.prog W = .ok (.slice (some ⟨b, off + c, none⟩) (n - c) (cap - c)) W := by
  have h1 : (c : Int) ≤ n := by omega
  have h2 : ¬ (cap = c) := by omega
  go_simp
def gonR (w w' : World) (e : Ending) (ad : Option Addr) (W : Wd) : Prop :=
  ∃ ad' cap', e = .returned (wdV W.low ad' W.seen.length cap') ∧ IntsAt w' ad' W.seen ∧ W.seen.length ≤ cap' ∧ (ad' = none → cap' = 0) ∧ (∀ a', ad' = some a' → ∃ a, ad = some a ∧ a'.block = a.block) ∧ Gr w w'
set_option maxHeartbeats 8000000 in
set_option maxRecDepth 100000 in
theorem goon_any (low : Int) (l : List Int) (ad : Option Addr) (cap : Nat) (w : World) (hL : IntsAt w ad l) (hn : l.length ≤ 1000) (hcap : l.length ≤ cap) (h0 : 0 ≤ low) (h1 : low ≤ 2000000000) (hl : ∀ n ∈ l, n ≤ 2000000000 ∧ 0 ≤ n) :
    Calls Try.prog 18 #[.int .i64 low, .slice ad l.length cap] w fun e w' => gonR w w' e ad (Wn.gon low l) := by
  have HL := Lib.hid hL
  have HB := Lib.hid hl
  clear hL hl
  go_enter Try.func18, Try.ntmps18
  go_wp2
  go_step3
  go_wp2
  go_step3
  go_wp2
  go_loopw [12] (fun i wr => ∃ (k : Nat) (x : Int), k ≤ l.length ∧ i = .int .i64 (k : Int) ∧ 0 ≤ x ∧ x ≤ 2000000000 ∧ Wn.gon low l = Wn.gon x (l.drop k) ∧ Bx2 wr (w.heap.size + 1) (.int .i64 x) (.slice none 0 0) ∧ Bx2 wr w.heap.size (.int .i64 0) (.slice none 0 0) ∧ Gr w wr) (fun i _ => l.length - (intOf i).toNat)
  case atStart => exact ⟨0, low, by omega, rfl, h0, h1, rfl, Bx2.new _ _ _ _ _ (by simp), (Bx2.new w _ _ _ _ rfl).gr (Gr.refl _).alloc, (Gr.refl w).alloc.alloc⟩
  case round =>
    obtain ⟨k, x, hk, rfl, hx0, hx1, he, hb, hr, hg⟩ := hrel
    have HG := Lib.hid hg
    have HBx := Lib.hid hb
    have HRs := Lib.hid hr
    obtain ⟨c0, c1, f0, f1, lt1⟩ := hb
    obtain ⟨r0, r1, s0, s1, lt0⟩ := hr
    clear hg
    by_cases hlt : k < l.length
    · obtain ⟨b, off, rfl, hbl, hc⟩ := HL.out k hlt
      have hc' := HG.out.keep hc
      have hn0 := HB.out l[k] (List.getElem_mem hlt)
      rw [List.drop_eq_getElem_cons hlt] at he
      have HE := Lib.hid he
      have HRw := Lib.hid (HL.out.drop k)
      rw [List.drop_eq_getElem_cons hlt] at HRw
      have hln : (l[k] :: l.drop (k + 1)).length = l.length - k := by rw [List.length_cons, List.length_drop]; omega
      have HLn := Lib.hid hln
      clear he hc hln
      generalize l[k] = n at *
      by_cases c : n = x + 1
      · have HF : Hid (Wn.gon low l = Wn.gon n (l.drop (k + 1))) := by show _ = _; rw [HE.out]; show (if n = x + 1 then _ else _) = _; rw [if_pos c]
        subst c
        have hb1 := Lib.hid (HBx.out.set0 (.int .i64 (x + 1)))
        have hr1 := Lib.hid (HRs.out.far (k := w.heap.size + 1) (by omega) 0 (.int .i64 (x + 1)))
        clear HE HRw HLn
        go_wp2
        go_roundw
        case rel => exact ⟨k + 1, x + 1, by omega, by go_num, by omega, by omega, HF.out, hb1.out, hr1.out, HG.out.set _ (by simp) _⟩
        case measure => simp [intOf]; omega
      · have HF : Hid (Wn.gon low l = ⟨x, n :: l.drop (k + 1)⟩) := by show _ = _; rw [HE.out]; show (if n = x + 1 then _ else _) = _; rw [if_neg c]
        have hsl := slice_from b off l.length cap k hlt hcap
        clear HE
        go_wp2
        rw [Exit.noGoto_ret]
        refine bodyPost_ret (v := wdV x (some ⟨b, off + k, none⟩) (l.length - k) (cap - k)) (by simp [results, Try.results18, go_sem, *]) rfl ?_
        refine ⟨some ⟨b, off + k, none⟩, cap - k, ?_, ?_, ?_, (fun e => by cases e), (fun a' e => ⟨_, rfl, by cases e; rfl⟩), ?_⟩
        · rw [HF.out]; simp only [HLn.out]
        · rw [HF.out]
          exact ((((HRw.out.gr HG.out).set _ _ (fun a e => by cases e; simp; omega)).set _ _ (fun a e => by cases e; simp; omega)).set _ _ (fun a e => by cases e; simp; omega))
        · rw [HF.out]; simp only [HLn.out]; omega
        · exact ((HG.out.set _ (by simp) _).set _ (by simp) _).set _ (by simp) _
    · have HF : Hid (Wn.gon low l = ⟨x, []⟩) := by show _ = _; rw [he, List.drop_eq_nil_of_le (by omega)]; rfl
      clear he
      go_wp2
      rw [Exit.noGoto_ret]
      refine bodyPost_ret (v := wdV x none 0 0) (by simp [results, Try.results18, go_sem, *]) rfl ?_
      refine ⟨none, 0, by rw [HF.out]; rfl, by rw [HF.out]; exact IntsAt.nil, by rw [HF.out]; simp, fun _ => rfl, (fun a' e => by cases e), ?_⟩
      exact (HG.out.set _ (by simp) _).set _ (by simp) _
end Go.Proofs.Ytdgjgpcfpkpnlaa
