/- Parts of these proofs, laid together. -/
import Derived.Test.YtojmhhmpmpbpfaaGreatDoorGK
import Derived.Test.YtojmhhmpmpbpfaaGreatDoorGL
import Derived.Test.YtojmhhmpmpbpfaaGreatDoorGD
import Derived.Test.YtojmhhmpmpbpfaaGreatDoorGE
import Derived.Deep.RegionHeld3
namespace Go.Proofs.YtojmhhmpmpbpfaaGreatDoor
open Go.RowKit Go.Maps
open Dk (Fl Fo St Ok Up zf emp used cutF fallA kf)

theorem Gr.dn {a b : World} (h : Gr a b) (n : Nat) : Gr a (b.drewN n) := by
  induction n with
  | zero => exact h
  | succ n ih => exact ih.drew
structure RAt (X : Nat → Prop) (w : World) (r : Nat) (fa : Option Addr) (fc : Nat) (ka : Option Addr) (kc : Nat) (s : St) : Prop where
  rm : w.cell? ⟨r, 0, none⟩ = some (.int .i64 s.room)
  gn : w.cell? ⟨r, 1, none⟩ = some (.bool s.dead)
  lf : w.cell? ⟨r, 2, none⟩ = some (.int .i64 s.left)
  kp : w.cell? ⟨r, 3, none⟩ = some (.slice ka s.keep.length kc)
  fl : w.cell? ⟨r, 4, none⟩ = some (.slice fa s.L.length fc)
  fz : ∀ o, o < 5 → w.frozen? ⟨r, o, none⟩ = false
  row : RowAt flf w fa s.L
  krow : KAt w ka kc s.keep
  fne : ∀ p, fa = some p → p.block ≠ r ∧ ¬ X p.block
  kne : s.keep ≠ [] → ∀ p, ka = some p → p.block ≠ r ∧ ¬ X p.block
  xl : ∀ j, X j → j < w.heap.size
  xr : ¬ X r
  cap : s.L.length ≤ fc
  capm : fc ≤ 9223372036854775807
  klen : s.keep.length ≤ 9223372036854775807
  ok : Ok s
def Rf (X : Nat → Prop) (w : World) (r : Nat) (s : St) : Prop := ∃ fa fc ka kc, RAt X w r fa fc ka kc s
variable {X : Nat → Prop} {w w' : World} {r : Nat} {fa : Option Addr} {fc : Nat} {ka : Option Addr} {kc : Nat} {s : St}
theorem RAt.lt (h : RAt X w r fa fc ka kc s) : r < w.heap.size := World.block_lt_of_cell? w _ h.rm
theorem ints_keep {ad : Option Addr} {l : List Int} (h : IntsAt w ad l) (hs : w.heap.size ≤ w'.heap.size) (hk : ∀ p, ad = some p → p.block < w.heap.size → w'.heap[p.block]? = w.heap[p.block]?) : IntsAt w' ad l := by
  intro j hj
  obtain ⟨b, off, rfl, hb, hc⟩ := h j hj
  exact ⟨b, off, rfl, Nat.lt_of_lt_of_le hb hs, (World.cell?_of_block (w := w) (a := ⟨b, off + j, none⟩) (hk ⟨b, off, none⟩ rfl hb)).trans hc⟩
theorem rows_keep {α : Type} {f : α → List Value} {ad : Option Addr} {l : List α} (h : RowAt f w ad l) (hs : w.heap.size ≤ w'.heap.size) (hk : ∀ p, ad = some p → p.block < w.heap.size → w'.heap[p.block]? = w.heap[p.block]?) : RowAt f w' ad l := by
  intro j u hu
  obtain ⟨b, off, rfl, hb, hc⟩ := h j u hu
  exact ⟨b, off, rfl, Nat.lt_of_lt_of_le hb hs, (World.cell?_of_block (w := w) (a := ⟨b, off + j, none⟩) (hk ⟨b, off, none⟩ rfl hb)).trans hc⟩
theorem KAt.keepX {ad : Option Addr} {cap : Nat} {l : List Int} (h : KAt w ad cap l) (hs : w.heap.size ≤ w'.heap.size) (hk : l ≠ [] → ∀ p, ad = some p → p.block < w.heap.size → w'.heap[p.block]? = w.heap[p.block]?) : KAt w' ad cap l := by
  refine ⟨?_, h.cap0⟩
  cases l with
  | nil => exact IntsAt.nil
  | cons x t => exact ints_keep h.row hs (hk (by simp))
/- whatever turns but its own blocks -/
theorem RAt.keep (h : RAt X w r fa fc ka kc s) (hs : w.heap.size ≤ w'.heap.size) (hk : ∀ j, j < w.heap.size → ¬ X j → w'.heap[j]? = w.heap[j]?) : RAt X w' r fa fc ka kc s := by
  have hr := hk r h.lt h.xr
  have hc : ∀ o, w'.cell? ⟨r, o, none⟩ = w.cell? ⟨r, o, none⟩ := fun o => World.cell?_of_block (w := w) hr
  exact ⟨(hc _).trans h.rm, (hc _).trans h.gn, (hc _).trans h.lf, (hc _).trans h.kp, (hc _).trans h.fl, fun o ho => (World.frozen?_of_block (w := w) hr).trans (h.fz o ho), rows_keep h.row hs (fun p e hl => hk _ hl (h.fne p e).2), h.krow.keepX hs (fun hn p e hl => hk _ hl (h.kne hn p e).2), h.fne, h.kne, fun j hj => Nat.lt_of_lt_of_le (h.xl j hj) hs, h.xr, h.cap, h.capm, h.klen, h.ok⟩
theorem RAt.gr (h : RAt X w r fa fc ka kc s) (g : Gr w w') : RAt X w' r fa fc ka kc s := h.keep g.size (fun j hj _ => g.below.block j hj)
theorem Rf.gr (h : Rf X w r s) (g : Gr w w') : Rf X w' r s := by
  obtain ⟨fa, fc, ka, kc, h⟩ := h
  exact ⟨fa, fc, ka, kc, h.gr g⟩
/- a cell of its own -/
theorem KAt.far {ad : Option Addr} {cap : Nat} {l : List Int} (h : KAt w ad cap l) (p : Addr) (u : Value) (hp : l ≠ [] → ∀ q, ad = some q → q.block ≠ p.block) : KAt (w.setCell p u) ad cap l :=
  h.keepX (by simp [World.setCell]) (fun hn q e _ => Below.heap_setCell w p u _ (hp hn q e))
theorem RAt.setGone (h : RAt X w r fa fc ka kc s) (x : Bool) : RAt X (w.setCell ⟨r, 1, none⟩ (.bool x)) r fa fc ka kc { s with dead := x } := by
  have h1 := h.gn
  refine ⟨?_, World.cell?_setCell_same _ _ _ h1, ?_, ?_, ?_, ?_, h.row.setFar _ _ (fun p e => ((h.fne p e).1).symm), h.krow.far _ _ (fun hn p e => (h.kne hn p e).1), h.fne, h.kne, fun j hj => by simpa [World.setCell] using h.xl j hj, h.xr, h.cap, h.capm, h.klen, ⟨h.ok.up, h.ok.fo, h.ok.len, h.ok.fits, h.ok.r1, h.ok.l0, h.ok.l1⟩⟩
  · rw [World.cell?_setCell_other _ _ _ _ (by simp)]; exact h.rm
  · rw [World.cell?_setCell_other _ _ _ _ (by simp)]; exact h.lf
  · rw [World.cell?_setCell_other _ _ _ _ (by simp)]; exact h.kp
  · rw [World.cell?_setCell_other _ _ _ _ (by simp)]; exact h.fl
  · intro o ho; rw [World.frozen?_setCell]; exact h.fz o ho
theorem RAt.setLeft (h : RAt X w r fa fc ka kc s) (n : Int) (hk : Ok { s with left := n }) : RAt X (w.setCell ⟨r, 2, none⟩ (.int .i64 n)) r fa fc ka kc { s with left := n } := by
  have h1 := h.lf
  refine ⟨?_, ?_, World.cell?_setCell_same _ _ _ h1, ?_, ?_, ?_, h.row.setFar _ _ (fun p e => ((h.fne p e).1).symm), h.krow.far _ _ (fun hn p e => (h.kne hn p e).1), h.fne, h.kne, fun j hj => by simpa [World.setCell] using h.xl j hj, h.xr, h.cap, h.capm, h.klen, hk⟩
  · rw [World.cell?_setCell_other _ _ _ _ (by simp)]; exact h.rm
  · rw [World.cell?_setCell_other _ _ _ _ (by simp)]; exact h.gn
  · rw [World.cell?_setCell_other _ _ _ _ (by simp)]; exact h.kp
  · rw [World.cell?_setCell_other _ _ _ _ (by simp)]; exact h.fl
  · intro o ho; rw [World.frozen?_setCell]; exact h.fz o ho
theorem RAt.setKeep (h : RAt X w r fa fc ka kc s) {ka' : Option Addr} {kc' : Nat} {l : List Int} (hl : KAt w ka' kc' l) (hn : l.length ≤ 9223372036854775807) (hne : l ≠ [] → ∀ p, ka' = some p → p.block ≠ r ∧ ¬ X p.block) : RAt X (w.setCell ⟨r, 3, none⟩ (.slice ka' l.length kc')) r fa fc ka' kc' { s with keep := l } := by
  have h1 := h.kp
  refine ⟨?_, ?_, ?_, World.cell?_setCell_same _ _ _ h1, ?_, ?_, h.row.setFar _ _ (fun p e => ((h.fne p e).1).symm), hl.far _ _ (fun hn p e => (hne hn p e).1), h.fne, hne, fun j hj => by simpa [World.setCell] using h.xl j hj, h.xr, h.cap, h.capm, hn, ⟨h.ok.up, h.ok.fo, h.ok.len, h.ok.fits, h.ok.r1, h.ok.l0, h.ok.l1⟩⟩
  · rw [World.cell?_setCell_other _ _ _ _ (by simp)]; exact h.rm
  · rw [World.cell?_setCell_other _ _ _ _ (by simp)]; exact h.gn
  · rw [World.cell?_setCell_other _ _ _ _ (by simp)]; exact h.lf
  · rw [World.cell?_setCell_other _ _ _ _ (by simp)]; exact h.fl
  · intro o ho; rw [World.frozen?_setCell]; exact h.fz o ho
theorem RAt.setFiles (h : RAt X w r fa fc ka kc s) {fa' : Option Addr} {fc' : Nat} {L : List Fl} (hl : RowAt flf w fa' L) (hne : ∀ p, fa' = some p → p.block ≠ r ∧ ¬ X p.block) (h0 : L.length ≤ fc') (h1 : fc' ≤ 9223372036854775807) (hk : Ok { s with L := L }) : RAt X (w.setCell ⟨r, 4, none⟩ (.slice fa' L.length fc')) r fa' fc' ka kc { s with L := L } := by
  have h4 := h.fl
  refine ⟨?_, ?_, ?_, ?_, World.cell?_setCell_same _ _ _ h4, ?_, hl.setFar _ _ (fun p e => ((hne p e).1).symm), h.krow.far _ _ (fun hn p e => (h.kne hn p e).1), hne, h.kne, fun j hj => by simpa [World.setCell] using h.xl j hj, h.xr, h0, h1, h.klen, hk⟩
  · rw [World.cell?_setCell_other _ _ _ _ (by simp)]; exact h.rm
  · rw [World.cell?_setCell_other _ _ _ _ (by simp)]; exact h.gn
  · rw [World.cell?_setCell_other _ _ _ _ (by simp)]; exact h.lf
  · rw [World.cell?_setCell_other _ _ _ _ (by simp)]; exact h.kp
  · intro o ho; rw [World.frozen?_setCell]; exact h.fz o ho
/- what a call may turn -/
def Tr (w w' : World) (r : Nat) : Prop := w.grownBy w' (some r)
theorem Tr.gr (g : Gr w w') : Tr w w' r := ⟨g.below.os, g.below.tape, g.below.output, g.size, fun k hk _ => g.below.block k hk⟩
theorem Tr.refl (w : World) (r : Nat) : Tr w w r := Tr.gr (Gr.refl w)
theorem Tr.trans {a w w' : World} (h : Tr a w r) (k : Tr w w' r) : Tr a w' r :=
  ⟨k.os.trans h.os, k.tape.trans h.tape, k.output.trans h.output, Nat.le_trans h.size k.size, fun j hj hn => by rw [k.block j (Nat.lt_of_lt_of_le hj h.size) hn, h.block j hj hn]⟩
theorem Tr.set (w : World) (r o : Nat) (u : Value) : Tr w (w.setCell ⟨r, o, none⟩ u) r := ⟨rfl, rfl, rfl, by simp [World.setCell], fun j _ hn => Below.heap_setCell w _ u j (fun e => hn (by rw [e]))⟩
/- the place of a file -/
def ix (L : List Fl) (n : Int) : Nat := L.findIdx (fun f => decide (f.n = n))
theorem ix_at {L : List Fl} {n : Int} (h : Dk.has L n = true) : ∃ hl : ix L n < L.length, L[ix L n] = Dk.get L n ∧ L[ix L n].n = n := by
  obtain ⟨f, h1, h2⟩ := Dk.has_mem h
  have hl : ix L n < L.length := List.findIdx_lt_length_of_exists ⟨f, h1, by simpa using h2⟩
  refine ⟨hl, ?_, ?_⟩
  · unfold Dk.get
    rw [List.find?_eq_getElem?_findIdx]
    show L[ix L n] = (L[ix L n]?).getD (zf 0)
    rw [List.getElem?_eq_getElem hl]
    rfl
  · have := List.findIdx_getElem (p := fun f : Fl => decide (f.n = n)) (w := hl)
    exact of_decide_eq_true this
theorem ix_of {L : List Fl} {n : Int} {k : Nat} (hk : k < L.length) (h1 : L[k].n = n) (h2 : ∀ f ∈ L.take k, f.n ≠ n) : ix L n = k := by
  unfold ix
  refine (List.findIdx_eq hk).2 ⟨by simpa using h1, fun j hj => ?_⟩
  have : L[j] ∈ L.take k := by
    rw [List.mem_take_iff_getElem]
    exact ⟨j, by omega, rfl⟩
  simpa using h2 _ this
set_option maxHeartbeats 4000000 in
set_option maxRecDepth 100000 in
theorem rused_any (h : RAt X w r fa fc ka kc s) : Calls Tryz.prog 88 #[ptr r] w fun e w' => e = .returned (.int .i64 (used s.L : Int)) ∧ w' = w := by
  have hfl := h.fl
  have HR := Lib.hid h.row
  have HO := Lib.hid h.ok
  have hl8 := h.ok.len
  clear h
  go_enter Tryz.func88, Tryz.ntmps88
  go_wp2
  go_loopw [4, 3] (fun i c wr => ∃ k : Nat, k ≤ s.L.length ∧ i = .int .i64 (k : Int) ∧ c = .int .i64 (used (s.L.take k) : Int) ∧ wr = w) (fun i _ _ => s.L.length - (intOf i).toNat)
  case atStart => exact ⟨0, Nat.zero_le _, rfl, rfl, rfl⟩
  case round =>
    obtain ⟨k, hk, rfl, rfl, rfl⟩ := hrel
    by_cases hlt : k < s.L.length
    · obtain ⟨x, off, hade, hxb, c0, c1, c2⟩ := fl_at HR.out k hlt
      have HU : Hid (used (s.L.take (k + 1)) = used (s.L.take k) + s.L[k].d.size) := by show _ = _; rw [List.take_succ_eq_append_getElem hlt, used_app]; simp [used]
      have hub : used (s.L.take k) + s.L[k].d.size ≤ 200000 := by
        rw [← HU.out]
        have h5 : used (s.L.take (k + 1)) + used (s.L.drop (k + 1)) = used s.L := by rw [← used_app, List.take_append_drop]
        have := HO.out.fits; have := HO.out.r1; omega
      subst hade
      generalize s.L[k] = f at *
      generalize used (s.L.take k) = us at *
      obtain ⟨fn, fd, fy⟩ := f
      simp only at *
      go_wp2
      go_roundw
      case rel => exact ⟨k + 1, by omega, by simp, by rw [HU.out]; simp, by trivial⟩
      case measure => simp [intOf]; omega
    · obtain rfl : k = s.L.length := by omega
      rw [List.take_length]
      go_wp2
      go_ret
      exact ⟨rfl, rfl⟩
def ixE (L : List Fl) (n : Int) : Int := if Dk.has L n then (ix L n : Int) else -1
set_option maxHeartbeats 4000000 in
set_option maxRecDepth 100000 in
theorem rat_any (h : RAt X w r fa fc ka kc s) (n : Int) : Calls Tryz.prog 66 #[ptr r, .int .i64 n] w fun e w' => e = .returned (.int .i64 (ixE s.L n)) ∧ w' = w := by
  have hfl := h.fl
  have HR := Lib.hid h.row
  have hl8 := h.ok.len
  clear h
  go_enter Tryz.func66, Tryz.ntmps66
  go_wp2
  go_loopw [5] (fun i wr => ∃ k : Nat, k ≤ s.L.length ∧ i = .int .i64 (k : Int) ∧ (∀ f ∈ s.L.take k, f.n ≠ n) ∧ wr = w) (fun i _ => s.L.length - (intOf i).toNat)
  case atStart => exact ⟨0, Nat.zero_le _, rfl, by simp, rfl⟩
  case round =>
    obtain ⟨k, hk, rfl, hne, rfl⟩ := hrel
    by_cases hlt : k < s.L.length
    · obtain ⟨x, off, hade, hxb, c0, c1, c2⟩ := fl_at HR.out k hlt
      subst hade
      by_cases he : s.L[k].n = n
      · have HE : Hid (ixE s.L n = (k : Int)) := by
          show ixE s.L n = _
          unfold ixE
          rw [ix_of hlt he hne, ← he, Dk.has_of (List.getElem_mem hlt)]
          rfl
        clear hne c1 c2
        generalize s.L[k].n = fn at *
        subst he
        go_wp2
        go_ret
        exact ⟨by rw [HE.out]; rfl, rfl⟩
      · have heb : (s.L[k].n == n) = false := by simpa using he
        have HN2 : Hid (∀ f ∈ s.L.take (k + 1), f.n ≠ n) := by
          intro f hf
          rw [List.take_succ_eq_append_getElem hlt] at hf
          rcases List.mem_append.1 hf with hf | hf
          · exact hne f hf
          · rw [List.mem_singleton] at hf; rw [hf]; exact he
        clear hne c1 c2
        generalize s.L[k].n = fn at *
        go_wp2
        go_roundw
        case rel => exact ⟨k + 1, by omega, by simp, HN2.out, by trivial⟩
        case measure => simp [intOf]; omega
    · obtain rfl : k = s.L.length := by omega
      rw [List.take_length] at hne
      have HE : Hid (ixE s.L n = -1) := by
        show ixE s.L n = _
        unfold ixE
        rw [Dk.has_false hne]
        rfl
      clear hne
      go_wp2
      go_ret
      exact ⟨by rw [HE.out]; rfl, rfl⟩
theorem fnd_dead {n : Int} (hd : s.dead = true) : fndF s n = zf 0 ∧ fndE s n = 150 := by simp [fndF, fndE, hd]
theorem fnd_no {n : Int} (hd : s.dead = false) (hh : Dk.has s.L n = false) : fndF s n = zf 0 ∧ fndE s n = 152 := by simp [fndF, fndE, hd, hh, Dk.get_not hh]
theorem fnd_yes {n : Int} (hd : s.dead = false) (hh : Dk.has s.L n = true) : fndF s n = Dk.get s.L n ∧ fndE s n = 0 := by simp [fndF, fndE, hd, hh]
set_option maxHeartbeats 4000000 in
set_option maxRecDepth 100000 in
theorem rread_any (h : RAt X w r fa fc ka kc s) (n : Int) : Calls Tryz.prog 37 #[ptr r, .int .i64 n] w fun e w' => e = .returned (.tuple #[.string (fndF s n).d, .int .i64 (fndE s n)]) ∧ w' = w := by
  have hfl := h.fl
  have hgn := h.gn
  have HA := Lib.hid (rat_any h n)
  have HR := Lib.hid h.row
  have hl8 := h.ok.len
  clear h
  cases hd : s.dead with
  | true =>
    rw [hd] at hgn
    rw [(fnd_dead hd).1, (fnd_dead hd).2]
    go_enter Tryz.func37, Tryz.ntmps37
    go_wp2
    go_ret2
    exact ⟨rfl, rfl⟩
  | false =>
    rw [hd] at hgn
    unfold ixE at HA
    cases hh : Dk.has s.L n with
    | false =>
      rw [hh] at HA
      rw [(fnd_no hd hh).1, (fnd_no hd hh).2]
      go_enter Tryz.func37, Tryz.ntmps37
      go_wp2_with (go_at_call 66; refine HA.out.mono ?_; rintro e w' ⟨rfl, hw⟩; obtain rfl := hw.symm; clear hw)
      go_ret2
      exact ⟨rfl, rfl⟩
    | true =>
      rw [hh] at HA
      rw [(fnd_yes hd hh).1, (fnd_yes hd hh).2]
      obtain ⟨hl, e1, e2⟩ := ix_at hh
      obtain ⟨x, off, hade, hxb, c0, c1, c2⟩ := fl_at HR.out (ix s.L n) hl
      rw [e1] at c1
      subst hade
      clear c0 c2 e1 e2
      generalize ix s.L n = k at *
      generalize (Dk.get s.L n).d = gd at *
      go_enter Tryz.func37, Tryz.ntmps37
      go_wp2_with (go_at_call 66; refine HA.out.mono ?_; rintro e w' ⟨rfl, hw⟩; obtain rfl := hw.symm; clear hw)
      go_ret2
      exact ⟨rfl, rfl⟩
/- last -/
def lasB (s : St) : Bool := !decide (s.left = 0) && decide (s.left - 1 = 0)
def lasS (s : St) : St := if s.left = 0 then s else { s with left := s.left - 1 }
set_option maxHeartbeats 4000000 in
set_option maxRecDepth 100000 in
theorem rlast_any (h : RAt X w r fa fc ka kc s) : Calls Tryz.prog 67 #[ptr r] w fun e w' => e = .returned (.bool (lasB s)) ∧ RAt X w' r fa fc ka kc (lasS s) ∧ Tr w w' r := by
  have c2 := h.lf
  have f2 := h.fz 2 (by omega)
  have hl0 := h.ok.l0
  have hl1 := h.ok.l1
  unfold lasB lasS
  by_cases h1 : s.left = 0
  · rw [decide_eq_true h1, if_pos h1]
    rw [h1] at c2
    have HR := Lib.hid h
    clear h f2
    go_enter Tryz.func67, Tryz.ntmps67
    go_wp2
    go_ret
    exact ⟨rfl, HR.out, Tr.refl _ _⟩
  · rw [decide_eq_false h1, if_neg h1]
    have hlb : (s.left == 0) = false := by simpa using h1
    have HR := Lib.hid (h.setLeft (s.left - 1) ⟨h.ok.up, h.ok.fo, h.ok.len, h.ok.fits, h.ok.r1, by simp only; omega, by simp only; omega⟩)
    clear h
    by_cases h3 : s.left - 1 = 0
    · rw [decide_eq_true h3]
      have hb3 : (s.left - 1 == 0) = true := by simpa using h3
      go_enter Tryz.func67, Tryz.ntmps67
      go_wp2
      go_ret
      exact ⟨by simp, by (have h6 := HR.out; rw [h3] at h6 ⊢; exact h6), Tr.set _ _ _ _⟩
    · rw [decide_eq_false h3]
      have hb3 : (s.left - 1 == 0) = false := by simpa using h3
      go_enter Tryz.func67, Tryz.ntmps67
      go_wp2
      go_ret
      exact ⟨by simp, HR.out, Tr.set _ _ _ _⟩
theorem rds_new (X : Nat → Prop) (w : World) {room : Int} (h0 : 0 ≤ room) (h1 : room ≤ 200000) (hx : ∀ j, X j → j < w.heap.size) : RAt X (w.alloc (.cells #[.int .i64 room, .bool false, .int .i64 0, .slice none 0 0, .slice none 0 0] 45)) w.heap.size none 0 none 0 (Dk.new room []) :=
  ⟨by simp [Dk.new], by simp [Dk.new], by simp [Dk.new], by simp [Dk.new], by simp [Dk.new], fun o _ => by simp [go_sem], RowAt.nil, KAt.none _, fun p e => by (cases e), fun _ p e => by (cases e), fun j hj => by have := hx j hj; simp; omega, fun e => by have := hx _ e; omega, by simp [Dk.new], by omega, by simp [Dk.new], Ok.new h0 h1⟩
set_option maxHeartbeats 4000000 in
set_option maxRecDepth 100000 in
theorem rnew_any (X : Nat → Prop) (room : Int) (w : World) (hx : ∀ j, X j → j < w.heap.size) : Calls Tryz.prog 28 #[.int .i64 room] w fun e w' =>
    if 0 ≤ room ∧ room ≤ 200000 then e = .returned (.tuple #[ptr w.heap.size, .int .i64 0]) ∧ RAt X w' w.heap.size none 0 none 0 (Dk.new room []) ∧ Gr w w' else e = .returned (.tuple #[nilP, .int .i64 2]) ∧ w' = w := by
  by_cases h : 0 ≤ room ∧ room ≤ 200000
  · simp only [if_pos h]
    have HN := Lib.hid (rds_new X w h.1 h.2 hx)
    have d1 : decide (room < 0) = false := decide_eq_false (by omega)
    have d2 : decide (200000 < room) = false := decide_eq_false (by omega)
    go_enter Tryz.func28, Tryz.ntmps28
    go_wp2
    go_ret2
    exact ⟨rfl, HN.out, (Gr.refl w).alloc⟩
  · simp only [if_neg h]
    by_cases h1 : room < 0
    · go_enter Tryz.func28, Tryz.ntmps28
      go_wp2
      go_ret2
      exact ⟨rfl, rfl⟩
    · have h2 : 200000 < room := by omega
      go_enter Tryz.func28, Tryz.ntmps28
      go_wp2
      go_ret2
      exact ⟨rfl, rfl⟩
/- Same, of two rows that are -/
set_option maxHeartbeats 4000000 in
set_option maxRecDepth 100000 in
theorem rsame_eq (L : List Fl) (a1 a2 : Option Addr) (c1 c2 : Nat) (w : World) (h1 : RowAt flf w a1 L) (h2 : RowAt flf w a2 L) (hn : L.length ≤ 1000) :
    Calls Tryz.prog 11 #[.slice a1 L.length c1, .slice a2 L.length c2] w fun e w' => e = .returned (.bool true) ∧ Gr w w' := by
  have H1 := Lib.hid h1
  have H2 := Lib.hid h2
  clear h1 h2
  go_enter Tryz.func11, Tryz.ntmps11
  go_wp2
  go_loopw [5] (fun i wr => ∃ k : Nat, k ≤ L.length ∧ i = .int .i64 (k : Int) ∧ Gr w wr) (fun i _ => L.length - (intOf i).toNat)
  case atStart => exact ⟨0, Nat.zero_le _, rfl, Gr.refl w⟩
  case round =>
    obtain ⟨k, hk, rfl, hg⟩ := hrel
    have HG := Lib.hid hg
    by_cases hlt : k < L.length
    · obtain ⟨x, off, hade, hxb, b0, b1, b2⟩ := fl_at H1.out k hlt
      obtain ⟨y, off2, hade2, hyb, d0, d1, d2⟩ := fl_at H2.out k hlt
      have b0 := hg.keep b0
      have b1 := hg.keep b1
      have b2 := hg.keep b2
      have d0 := hg.keep d0
      have d1 := hg.keep d1
      have d2 := hg.keep d2
      have hnq : ∀ W : World, (binOp .neq 24 (flV L[k]) (flV L[k])).run Tryz.prog W = .ok (.bool false) W := fun W => by have := neq_fl L[k] L[k] W; rw [(eqF_iff _ _).2 rfl] at this; exact this
      subst hade hade2
      clear hg
      generalize L[k] = f at *
      obtain ⟨fn, fd, fy⟩ := f
      simp only at *
      go_upto_region 6 with fail
      go_quiet (fail)
      go_wp2
      go_roundw
      case rel => exact ⟨k + 1, by omega, by simp, HG.out.dn _⟩
      case measure => simp [intOf]; omega
    · obtain rfl : k = L.length := by omega
      clear hg
      go_wp2
      go_ret
      exact ⟨rfl, HG.out⟩
end Go.Proofs.YtojmhhmpmpbpfaaGreatDoor
namespace Go.Proofs.YtojmhhmpmpbpfaaGreatDoor
open Go.RowKit

theorem conv2 (w : World) (b : Nat) (x : Nat) (hx : x < 256) (h0 : w.cell? ⟨b, 0, none⟩ = some (.int .u8 231)) (h : w.cell? ⟨b, 1, none⟩ = some (.int .u8 (x : Int))) :
    (convert 123 9 (.slice (some ⟨b, 0, none⟩) 2 2)).run Tryz.prog w = .ok (.string ⟨#[231, UInt8.ofNat x]⟩) w := by
  have := run_convert_bytes_back (P := Tryz.prog) w 123 9 5 ⟨b, 0, none⟩ 2 [231, UInt8.ofNat x] Tryz.underlying123 Tryz.underlying5 Tryz.underlying9 (by
    intro j hj
    match j, hj with
    | 0, _ => simpa [Addr.add] using h0
    | 1, _ => simpa [Addr.add, Nat.mod_eq_of_lt hx] using h)
  simpa using this
theorem strsAt2 {w : World} {b : Nat} {s t : ByteArray} (h0 : w.cell? ⟨b, 0, none⟩ = some (.string s)) (h1 : w.cell? ⟨b, 1, none⟩ = some (.string t)) : StrsAt w (some ⟨b, 0, none⟩) [s, t] := by
  intro j hj
  match j, hj with
  | 0, _ => exact ⟨b, 0, rfl, World.block_lt_of_cell? w _ h0, h0⟩
  | 1, _ => exact ⟨b, 0, rfl, World.block_lt_of_cell? w _ h1, h1⟩

set_option maxHeartbeats 1000000 in
set_option maxRecDepth 100000 in
theorem seal_any (v : Int) (b : ByteArray) (w : World) (hT : Tab w) (hs : b.size ≤ 9223372036854775807) :
    Calls Tryz.prog 71 #[.int .i64 v, .string b] w fun e w' => e = .returned (.tuple #[.string ⟨(Sl.sealE v b.data.toList).1.toArray⟩, .int .i64 (Sl.sealE v b.data.toList).2]) ∧ Gr w w' := by
  have hsz : b.data.toList.length = b.size := by simp
  have HV : Hid (∀ w : World, Calls Tryz.prog 92 #[.int .i64 v] w fun e w' => e = .returned (.bool (decide (0 ≤ v ∧ v ≤ 255))) ∧ w' = w) := fun w => isVersion_any v w
  by_cases hv : 0 ≤ v ∧ v ≤ 255
  · rw [decide_eq_true hv] at HV
    by_cases hb : b.size ≤ 30000
    · have HE : Hid (Sl.sealE v b.data.toList = (Sl.front v.toNat b.data.toList ++ Sl.eight (Sl.sum (Sl.front v.toNat b.data.toList)), 0)) := by
        show _ = _
        rw [Sl.sealE, if_pos hv, if_pos (by omega)]; rfl
      obtain ⟨x, hx⟩ : ∃ x : Nat, v = (x : Int) := ⟨v.toNat, by omega⟩
      subst hx
      have hx : x < 256 := by omega
      have hfl := Sl.front_len x b.data.toList
      have hnl := Pk.num_len b.data.toList.length
      have htl : (Pk.text b.data.toList).length = (Pk.num b.data.toList.length).length + b.data.toList.length := by unfold Pk.text; exact List.length_append
      have HX : Hid (∀ w : World, Calls Tryz.prog 93 #[.string b] w fun e w' => e = .returned (.string ⟨(Pk.text b.data.toList).toArray⟩) ∧ Gr w w') := fun w => text_any b w (by omega)
      have HS : Hid (∀ (w' : World) (k : Nat), Gr w w' → w'.cell? ⟨k, 0, none⟩ = some (.string ⟨#[231, UInt8.ofNat x]⟩) → w'.cell? ⟨k, 1, none⟩ = some (.string ⟨(Pk.text b.data.toList).toArray⟩) →
          Calls Tryz.prog 81 #[.slice (some ⟨k, 0, none⟩) 2 2] w' fun e w2 => e = .returned (.int .u64 (Sl.sum (Sl.front x b.data.toList) : Nat)) ∧ w2 = w') := by
        intro w' k g h0 h1
        have := sum_any [⟨#[231, UInt8.ofNat x]⟩, ⟨(Pk.text b.data.toList).toArray⟩] (some ⟨k, 0, none⟩) 2 w' (hT.gr g) (strsAt2 h0 h1) (by simp) (by
          intro s hs
          simp at hs
          rcases hs with rfl | rfl
          · simp [ByteArray.size]
          · have : (Pk.text b.data.toList).length ≤ 9223372036854775807 := by omega
            simpa [ByteArray.size] using this)
        simpa [flat, Sl.front] using this
      have HL : Hid (∀ w : World, Calls Tryz.prog 80 #[.int .u64 (Sl.sum (Sl.front x b.data.toList) : Nat)] w fun e w' => e = .returned (.string ⟨(Sl.eight (Sl.sum (Sl.front x b.data.toList))).toArray⟩) ∧ Gr w w') := fun w => laidSum_any _ w
      have hel := Sl.eight_len (Sl.sum (Sl.front x b.data.toList))
      have ha1 := add_lists [231, UInt8.ofNat x] (Pk.text b.data.toList) (by simp only [List.length_cons, List.length_nil]; omega)
      have ha2 := add_lists (Sl.front x b.data.toList) (Sl.eight (Sl.sum (Sl.front x b.data.toList))) (by omega)
      have hfd : [231, UInt8.ofNat x] ++ Pk.text b.data.toList = Sl.front x b.data.toList := rfl
      rw [hfd] at ha1
      have hcv := fun w k => conv2 w k x hx
      have hw8 := w8 (x : Int) (by omega) (by omega)
      have htn : ((x : Nat) : Int).toNat = x := by omega
      rw [htn] at HE
      generalize Sl.sum (Sl.front x b.data.toList) = sm at *
      generalize Sl.eight sm = e8 at *
      generalize Sl.front x b.data.toList = fr at *
      generalize Pk.text b.data.toList = tx at *
      clear hfd htn hel hnl hfl hsz htl
      go_enter Tryz.func71, Tryz.ntmps71
      go_wp2_with fail
      refine (HV.out _).mono ?_
      rintro e w1 ⟨rfl, rfl⟩
      go_wp2_with fail
      go_region_with (go_at_call 93; refine (HX.out _).mono ?_; rintro e w1 ⟨rfl, hb1⟩; obtain ⟨hc1, hf1⟩ := hb1.cells)
      all_goals go_wp2_with fail
      all_goals refine (HS.out _ _ (by exact (by repeat (first | exact Gr.refl _ | refine Gr.alloc ?_ | refine Gr.drew ?_ | refine Gr.trans ?_ (by assumption)))) (by simp) (by simp)).mono ?_
      all_goals rintro e w3 ⟨rfl, rfl⟩
      all_goals go_wp2_with fail
      all_goals refine (HL.out _).mono ?_
      all_goals rintro e w4 ⟨rfl, hg4⟩
      all_goals go_wp2
      all_goals go_ret2
      all_goals exact ⟨by rw [HE.out]; rfl, (by repeat (first | exact Gr.refl _ | refine Gr.alloc ?_ | refine Gr.drew ?_ | refine Gr.trans ?_ (by assumption)))⟩
    · have HE : Hid (Sl.sealE v b.data.toList = ([], 3)) := by
        show _ = _
        rw [Sl.sealE, if_pos hv, if_neg (by omega)]
      clear hsz
      go_enter Tryz.func71, Tryz.ntmps71
      go_wp2_with fail
      refine (HV.out _).mono ?_
      rintro e w1 ⟨rfl, rfl⟩
      go_wp2
      go_ret2
      rw [HE.out]
      exact ⟨rfl, Gr.refl _⟩
  · rw [decide_eq_false hv] at HV
    have HE : Hid (Sl.sealE v b.data.toList = ([], 2)) := by
      show _ = _
      rw [Sl.sealE, if_neg hv]
    clear hsz
    go_enter Tryz.func71, Tryz.ntmps71
    go_wp2_with fail
    refine (HV.out _).mono ?_
    rintro e w1 ⟨rfl, rfl⟩
    go_wp2
    go_ret2
    rw [HE.out]
    exact ⟨rfl, Gr.refl _⟩
end Go.Proofs.YtojmhhmpmpbpfaaGreatDoor
