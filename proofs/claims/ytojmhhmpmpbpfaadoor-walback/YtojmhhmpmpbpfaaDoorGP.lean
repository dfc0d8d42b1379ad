/- Parts of these proofs, laid together. -/
import Derived.Test.YtojmhhmpmpbpfaaDoorGH
import Derived.Test.YtojmhhmpmpbpfaaDoorGN
import Derived.Test.YtojmhhmpmpbpfaaDoorGO
import Derived.Test.YtojmhhmpmpbpfaaDoorGD
import Derived.Test.YtojmhhmpmpbpfaaDoorGE
import Derived.Deep.RegionHeld3
import Derived.Test.YtojmhhmpmpbpfaaDoorGA
import Derived.Test.YtojmhhmpmpbpfaaDoorShelf
import Derived.Deep.QuietTactic
import Derived.BigQuiet
namespace Go.Proofs.YtojmhhmpmpbpfaaDoor
open Go.RowKit Go.Maps
open Dk (Fl Fo St Ok)
variable {a w w' w2 : World} {b m f g : Nat} {A : Nat → Int} {s : St}

/- what a call on a log, or on the file of one, may turn: its disk, and its own block -/
structure T3 (w w' : World) (b m f : Nat) : Prop where
  os : w'.os = w.os
  tape : w'.tape = w.tape
  output : w'.output = w.output
  size : w.heap.size ≤ w'.heap.size
  block : ∀ j, j < w.heap.size → j ≠ b → j ≠ m → j ≠ f → w'.heap[j]? = w.heap[j]?
theorem Td.t3 (h : Td w w' b m) (f : Nat) : T3 w w' b m f := ⟨h.os, h.tape, h.output, h.size, fun j hj h1 h2 _ => h.block j hj h1 h2⟩
theorem T3.gr (h : Gr w w') (b m f : Nat) : T3 w w' b m f := (Td.gr h).t3 f
theorem T3.refl (w : World) (b m f : Nat) : T3 w w b m f := T3.gr (Gr.refl w) b m f
theorem T3.trans (h : T3 a w b m f) (k : T3 w w' b m f) : T3 a w' b m f := by
  have hs := h.size
  exact ⟨k.os.trans h.os, k.tape.trans h.tape, k.output.trans h.output, Nat.le_trans h.size k.size, fun j hj h1 h2 h3 => by rw [k.block j (by omega) h1 h2 h3, h.block j hj h1 h2 h3]⟩
theorem T3.set (w : World) (b m f o : Nat) (u : Value) : T3 w (w.setCell ⟨f, o, none⟩ u) b m f :=
  ⟨rfl, rfl, rfl, by simp [World.setCell], fun j _ _ _ hn => Below.heap_setCell w _ u j hn⟩
theorem T3.cell {j o : Nat} {u : Value} (h : T3 w w' b m f) (hb : j ≠ b) (hm : j ≠ m) (hf : j ≠ f) (hc : w.cell? ⟨j, o, none⟩ = some u) : w'.cell? ⟨j, o, none⟩ = some u := by
  rw [World.cell?_of_block (w := w) (h.block j (World.block_lt_of_cell? w _ hc) hb hm hf)]; exact hc
theorem T3.gr_of (g : Gr a w) (t : T3 w w' b m f) (hb : a.heap.size ≤ b) (hm : a.heap.size ≤ m) (hf : a.heap.size ≤ f) : Gr a w' :=
  ⟨⟨t.os.trans g.below.os, t.tape.trans g.below.tape, t.output.trans g.below.output, Nat.le_trans g.below.size t.size, fun j hj => by
    rw [t.block j (Nat.lt_of_lt_of_le hj g.size) (by omega) (by omega) (by omega)]
    exact g.below.block j hj⟩⟩
/- a block that is new since a world -/
theorem T3.skip (g : Gr a w) (t : T3 w w' b m f) (hf : a.heap.size ≤ f) : Td a w' b m :=
  ⟨t.os.trans g.below.os, t.tape.trans g.below.tape, t.output.trans g.below.output, Nat.le_trans g.below.size t.size, fun j hj h1 h2 => by
    rw [t.block j (Nat.lt_of_lt_of_le hj g.size) h1 h2 (by omega)]
    exact g.below.block j hj⟩
theorem Td.ints {ad : Option Addr} {l : List Int} (h : IntsAt w ad l) (t : Td w w' b m) (hd : ∀ p, ad = some p → p.block ≠ b ∧ p.block ≠ m) : IntsAt w' ad l :=
  ints_keep h t.size (fun p e hl => t.block _ hl (hd p e).1 (hd p e).2)
theorem Td.strs {ad : Option Addr} {l : List ByteArray} (h : StrsAt w ad l) (t : Td w w' b m) (hd : ∀ p, ad = some p → p.block ≠ b ∧ p.block ≠ m) : StrsAt w' ad l := by
  intro j hj
  obtain ⟨x, off, rfl, hb, hc⟩ := h j hj
  exact ⟨x, off, rfl, Nat.lt_of_lt_of_le hb t.size, t.cell (hd _ rfl).1 (hd _ rfl).2 hc⟩
theorem T3.strs {ad : Option Addr} {l : List ByteArray} (h : StrsAt w ad l) (t : T3 w w' b m f) (hd : ∀ p, ad = some p → p.block ≠ b ∧ p.block ≠ m ∧ p.block ≠ f) : StrsAt w' ad l := by
  intro j hj
  obtain ⟨x, off, rfl, hb, hc⟩ := h j hj
  exact ⟨x, off, rfl, Nat.lt_of_lt_of_le hb t.size, t.cell (hd _ rfl).1 (hd _ rfl).2.1 (hd _ rfl).2.2 hc⟩

/- a struct of three cells in a block of its own -/
structure Bx3 (w : World) (g : Nat) (a b c : Value) : Prop where
  c0 : w.cell? ⟨g, 0, none⟩ = some a
  c1 : w.cell? ⟨g, 1, none⟩ = some b
  c2 : w.cell? ⟨g, 2, none⟩ = some c
  f0 : w.frozen? ⟨g, 0, none⟩ = false
  f1 : w.frozen? ⟨g, 1, none⟩ = false
  f2 : w.frozen? ⟨g, 2, none⟩ = false
  lt : g < w.heap.size
theorem Bx3.gr {x y u : Value} (h : Bx3 w g x y u) (k : Gr w w') : Bx3 w' g x y u :=
  ⟨k.keep h.c0, k.keep h.c1, k.keep h.c2, k.keepF h.lt h.f0, k.keepF h.lt h.f1, k.keepF h.lt h.f2, Nat.lt_of_lt_of_le h.lt k.size⟩
theorem Bx3.new (w : World) (x y u : Value) (t : TypeId) (g : Nat) (hg : g = w.heap.size) : Bx3 (w.alloc (.cells #[x, y, u] t)) g x y u := by
  subst hg
  exact ⟨by simp, by simp, by simp, by simp [go_sem], by simp [go_sem], by simp [go_sem], by simp⟩
theorem Bx3.s0 {x y u : Value} (h : Bx3 w g x y u) (v : Value) : Bx3 (w.setCell ⟨g, 0, none⟩ v) g v y u := by
  obtain ⟨h0, h1, h2, f0, f1, f2, hl⟩ := h
  exact ⟨by simp [go_sem, *], by simp [go_sem, *], by simp [go_sem, *], by simp [go_sem, *], by simp [go_sem, *], by simp [go_sem, *], by simpa using hl⟩
theorem Bx3.s1 {x y u : Value} (h : Bx3 w g x y u) (v : Value) : Bx3 (w.setCell ⟨g, 1, none⟩ v) g x v u := by
  obtain ⟨h0, h1, h2, f0, f1, f2, hl⟩ := h
  exact ⟨by simp [go_sem, *], by simp [go_sem, *], by simp [go_sem, *], by simp [go_sem, *], by simp [go_sem, *], by simp [go_sem, *], by simpa using hl⟩
theorem Bx3.s2 {x y u : Value} (h : Bx3 w g x y u) (v : Value) : Bx3 (w.setCell ⟨g, 2, none⟩ v) g x y v := by
  obtain ⟨h0, h1, h2, f0, f1, f2, hl⟩ := h
  exact ⟨by simp [go_sem, *], by simp [go_sem, *], by simp [go_sem, *], by simp [go_sem, *], by simp [go_sem, *], by simp [go_sem, *], by simpa using hl⟩
theorem Bx3.keep {x y u : Value} (h : Bx3 w g x y u) (e : w'.heap[g]? = w.heap[g]?) : Bx3 w' g x y u := by
  have hc : ∀ o, w'.cell? ⟨g, o, none⟩ = w.cell? ⟨g, o, none⟩ := fun o => World.cell?_of_block (w := w) e
  have hf : ∀ o, w'.frozen? ⟨g, o, none⟩ = w.frozen? ⟨g, o, none⟩ := fun o => World.frozen?_of_block (w := w) e
  refine ⟨(hc _).trans h.c0, (hc _).trans h.c1, (hc _).trans h.c2, (hf _).trans h.f0, (hf _).trans h.f1, (hf _).trans h.f2, ?_⟩
  exact World.block_lt_of_cell? w' ⟨g, 0, none⟩ ((hc _).trans h.c0)
/- the file of a log -/
structure Fa (w : World) (g b : Nat) (n : Int) : Prop where
  c0 : w.cell? ⟨g, 0, none⟩ = some (ptr b)
  c1 : w.cell? ⟨g, 1, none⟩ = some (.int .i64 n)
variable {n : Int}
theorem Fa.lt (h : Fa w g b n) : g < w.heap.size := World.block_lt_of_cell? w _ h.c0
theorem Fa.ne (h : Fa w g b n) (hd : DAt w b m A s) : g ≠ b ∧ g ≠ m := by
  constructor
  · rintro rfl
    have h1 := h.c0
    rw [hd.mp] at h1
    cases h1
  · rintro rfl
    obtain ⟨D, ⟨es, cl, h1, _⟩, _⟩ := hd.fl
    have := h.c0
    simp [World.cell?, h1] at this
theorem Fa.keep (h : Fa w g b n) (e : w'.heap[g]? = w.heap[g]?) : Fa w' g b n := by
  have hc : ∀ o, w'.cell? ⟨g, o, none⟩ = w.cell? ⟨g, o, none⟩ := fun o => World.cell?_of_block (w := w) e
  exact ⟨(hc _).trans h.c0, (hc _).trans h.c1⟩
theorem Fa.gr (h : Fa w g b n) (k : Gr w w') : Fa w' g b n := h.keep (k.below.block g h.lt)
theorem Fa.td (h : Fa w g b n) (hd : DAt w b m A s) (k : Td w w' b m) : Fa w' g b n := h.keep (k.block g h.lt (h.ne hd).1 (h.ne hd).2)
theorem Fa.far (h : Fa w g b n) (hd : DAt w b m A s) (k : FaR w w' b m s) : Fa w' g b n := h.td hd k.2
/- a log is the box of its file, and whether it is broken; how many bytes the file has, the disk alone says -/
abbrev LgAt (w : World) (g b : Nat) (l : Wl.Lg) : Prop := Bx3 w g (ptr b) (.int .i64 l.n) (.bool l.br)
theorem LgAt.fa {l : Wl.Lg} (h : LgAt w g b l) : Fa w g b l.n := ⟨h.c0, h.c1⟩
theorem LgAt.ne {l : Wl.Lg} (h : LgAt w g b l) (hd : DAt w b m A s) : g ≠ b ∧ g ≠ m := h.fa.ne hd
theorem LgAt.td {l : Wl.Lg} (h : LgAt w g b l) (hd : DAt w b m A s) (k : Td w w' b m) : LgAt w' g b l := h.keep (k.block g h.lt (h.ne hd).1 (h.ne hd).2)
/- a struct of four cells, where nothing touches its block -/
theorem Bx4.keep {x y u v : Value} (h : Bx4 w g x y u v) (e : w'.heap[g]? = w.heap[g]?) : Bx4 w' g x y u v := by
  have hc : ∀ o, w'.cell? ⟨g, o, none⟩ = w.cell? ⟨g, o, none⟩ := fun o => World.cell?_of_block (w := w) e
  have hf : ∀ o, w'.frozen? ⟨g, o, none⟩ = w.frozen? ⟨g, o, none⟩ := fun o => World.frozen?_of_block (w := w) e
  refine ⟨(hc _).trans h.c0, (hc _).trans h.c1, (hc _).trans h.c2, (hc _).trans h.c3, (hf _).trans h.f0, (hf _).trans h.f1, (hf _).trans h.f2, (hf _).trans h.f3, ?_⟩
  exact World.block_lt_of_cell? w' ⟨g, 0, none⟩ ((hc _).trans h.c0)

/- bytes are laid behind a file -/
def layE (s : St) (n : Int) (d : ByteArray) : Int := if Dk.appE s n d = 0 then Dk.stpE (Dk.appS s n d) 1 n 0 else Dk.appE s n d
def layS (s : St) (n : Int) (d : ByteArray) : St := if Dk.appE s n d = 0 then Dk.stpS (Dk.appS s n d) 1 n 0 else Dk.appS s n d
theorem beg_ok {b : ByteArray} (h : b.size ≤ 30000) (s : St) (n : Int) : (Wl.beg s n b).2.1 = layE s n (Wl.fr b) ∧ (Wl.beg s n b).2.2 = layS s n (Wl.fr b) := by
  unfold Wl.beg layE layS
  rw [if_pos h]
  split <;> exact ⟨rfl, rfl⟩
end Go.Proofs.YtojmhhmpmpbpfaaDoor
namespace Go.Proofs.YtojmhhmpmpbpfaaDoor
open Go.RowKit Go.Maps
open Dk (Fl Fo St Ok)
variable {a w w' w2 : World} {b m f g : Nat} {A : Nat → Int} {s : St} {n z : Int}

theorem get_none {L : List Fl} (h : ∀ j (hj : j < L.length), L[j].n ≠ n) : ((Dk.get L n).d.size : Int) = 0 := by
  have h1 : Dk.has L n = false := Dk.has_false (fun f hf => by
    obtain ⟨j, hj, rfl⟩ := List.getElem_of_mem hf
    exact h j hj)
  rw [Dk.get_not h1]; rfl
set_option maxHeartbeats 4000000 in
set_option maxRecDepth 100000 in
theorem fsize_any (h : DAt w b m A s) (hf : Fa w g b n) : Calls Tryd.prog 23 #[ptr g] w fun e w' => e = .returned (.int .i64 ((Dk.get s.L n).d.size : Int)) ∧ Gr w w' := by
  have HI := Lib.hid (image_cap h)
  have HO := Lib.hid h.ok
  have hl8 := h.ok.len
  have c0 := hf.c0
  have HF := Lib.hid hf.c1
  have hgl := hf.lt
  clear h hf
  go_enter Tryd.func23, Tryd.ntmps23
  go_wp2_with fail
  refine HI.out.mono ?_
  rintro e w1 ⟨ia, ic, rfl, hrow, _, hg1, _⟩
  have HG1 := Lib.hid hg1
  have HRow := Lib.hid hrow
  clear hrow hg1 c0 HI
  go_wp2
  go_loopw [11] (fun i wr => ∃ k : Nat, k ≤ s.L.length ∧ i = .int .i64 (k : Int) ∧ (∀ j (hj : j < s.L.length), j < k → s.L[j].n ≠ n) ∧ Gr w1 wr) (fun i _ => s.L.length - (intOf i).toNat)
  case atStart => exact ⟨0, Nat.zero_le _, rfl, fun j _ h => absurd h (Nat.not_lt_zero _), Gr.refl _⟩
  case round =>
    obtain ⟨k, hk, rfl, hno, hg⟩ := hrel
    have HG := Lib.hid hg
    have HN := Lib.hid hno
    clear hno hg
    by_cases hlt : k < s.L.length
    · obtain ⟨x, off, hade, hxb, q0, q1, q2⟩ := fl_at HRow.out k hlt
      have q0 := HG.out.keep q0
      have q1 := HG.out.keep q1
      have q2 := HG.out.keep q2
      have HGA := Lib.hid (HG1.out.trans HG.out)
      have HQ : Hid (s.L[k].n = n → Dk.get s.L n = s.L[k]) := fun e => by subst e; exact Dk.get_of HO.out.up (List.getElem_mem hlt)
      have HNx : Hid (s.L[k].n ≠ n → ∀ j (hj : j < s.L.length), j < k + 1 → s.L[j].n ≠ n) := fun e j hj hjk => by
        by_cases hjk2 : j < k
        · exact HN.out j hj hjk2
        · obtain rfl : j = k := by omega
          exact e
      subst hade
      clear HN HRow HO
      generalize s.L[k] = f at *
      obtain ⟨fn, fd, fy⟩ := f
      simp only at *
      have c1 : (wr.alloc (.cells #[.int .i64 fn, .string fd, .int .i64 fy] 68)).cell? ⟨g, 1, none⟩ = some (.int .i64 n) := HGA.out.alloc.keep HF.out
      by_cases e1 : fn = n
      · have HE : Hid ((Dk.get s.L n).d.size = fd.size) := by show _ = _; rw [HQ.out e1]
        clear HQ HNx
        subst e1
        go_upto_region 4 with fail
        go_region
        go_wp2
        go_ret
        exact ⟨by rw [HE.out]; first | done | rfl, HGA.out.alloc.drew⟩
      · have e1b : (fn == n) = false := by simpa using e1
        clear HQ
        go_upto_region 4 with fail
        go_region
        go_wp2
        go_roundw
        case rel => exact ⟨k + 1, by omega, by simp, HNx.out e1, HG.out.alloc.drew⟩
        case measure => simp [intOf]; omega
    · obtain rfl : k = s.L.length := by omega
      have HE : Hid (((Dk.get s.L n).d.size : Int) = 0) := get_none (fun j hj => HN.out j hj hj)
      clear HN HRow HO
      go_wp2
      go_ret
      exact ⟨by rw [HE.out]; rfl, HG1.out.trans HG.out⟩
end Go.Proofs.YtojmhhmpmpbpfaaDoor
namespace Go.Proofs.YtojmhhmpmpbpfaaDoor
open Go.RowKit

theorem conv2 (w : World) (b : Nat) (x : Nat) (hx : x < 256) (h0 : w.cell? ⟨b, 0, none⟩ = some (.int .u8 231)) (h : w.cell? ⟨b, 1, none⟩ = some (.int .u8 (x : Int))) :
    (convert 71 9 (.slice (some ⟨b, 0, none⟩) 2 2)).run Tryd.prog w = .ok (.string ⟨#[231, UInt8.ofNat x]⟩) w := by
  have := run_convert_bytes_back (P := Tryd.prog) w 71 9 5 ⟨b, 0, none⟩ 2 [231, UInt8.ofNat x] Tryd.underlying71 Tryd.underlying5 Tryd.underlying9 (by
    intro j hj
    match j, hj with
    | 0, _ => simpa [Addr.add] using h0
    | 1, _ => simpa [Addr.add, Nat.mod_eq_of_lt hx] using h)
  simpa using this
theorem strsAt2 {w : World} {b : Nat} {s t : ByteArray} (h0 : w.cell? ⟨b, 0, none⟩ = some (.string s)) (h1 : w.cell? ⟨b, 1, none⟩ = some (.string t)) : StrsAt w (some ⟨b, 0, none⟩) [s, t] := by
  intro j hj
  match j, hj with
  | 0, _ => exact ⟨b, 0, rfl, World.block_lt_of_cell? w _ h0, h0⟩
  | 1, _ => exact ⟨b, 0, rfl, World.block_lt_of_cell? w _ h1, h1⟩

set_option maxHeartbeats 1000000 in
set_option maxRecDepth 100000 in
theorem seal_any (v : Int) (b : ByteArray) (w : World) (hT : Tab w) (hs : b.size ≤ 9223372036854775807) :
    Calls Tryd.prog 32 #[.int .i64 v, .string b] w fun e w' => e = .returned (.tuple #[.string ⟨(Sl.sealE v b.data.toList).1.toArray⟩, .int .i64 (Sl.sealE v b.data.toList).2]) ∧ Gr w w' := by
  have hsz : b.data.toList.length = b.size := by simp
  have HV : Hid (∀ w : World, Calls Tryd.prog 53 #[.int .i64 v] w fun e w' => e = .returned (.bool (decide (0 ≤ v ∧ v ≤ 255))) ∧ w' = w) := fun w => isVersion_any v w
  by_cases hv : 0 ≤ v ∧ v ≤ 255
  · rw [decide_eq_true hv] at HV
    by_cases hb : b.size ≤ 30000
    · have HE : Hid (Sl.sealE v b.data.toList = (Sl.front v.toNat b.data.toList ++ Sl.eight (Sl.sum (Sl.front v.toNat b.data.toList)), 0)) := by
        show _ = _
        rw [Sl.sealE, if_pos hv, if_pos (by omega)]; rfl
      obtain ⟨x, hx⟩ : ∃ x : Nat, v = (x : Int) := ⟨v.toNat, by omega⟩
      subst hx
      have hx : x < 256 := by omega
      have hfl := Sl.front_len x b.data.toList
      have hnl := Pk.num_len b.data.toList.length
      have htl : (Pk.text b.data.toList).length = (Pk.num b.data.toList.length).length + b.data.toList.length := by unfold Pk.text; exact List.length_append
      have HX : Hid (∀ w : World, Calls Tryd.prog 54 #[.string b] w fun e w' => e = .returned (.string ⟨(Pk.text b.data.toList).toArray⟩) ∧ Gr w w') := fun w => text_any b w (by omega)
      have HS : Hid (∀ (w' : World) (k : Nat), Gr w w' → w'.cell? ⟨k, 0, none⟩ = some (.string ⟨#[231, UInt8.ofNat x]⟩) → w'.cell? ⟨k, 1, none⟩ = some (.string ⟨(Pk.text b.data.toList).toArray⟩) →
          Calls Tryd.prog 56 #[.slice (some ⟨k, 0, none⟩) 2 2] w' fun e w2 => e = .returned (.int .u64 (Sl.sum (Sl.front x b.data.toList) : Nat)) ∧ w2 = w') := by
        intro w' k g h0 h1
        have := sum_any [⟨#[231, UInt8.ofNat x]⟩, ⟨(Pk.text b.data.toList).toArray⟩] (some ⟨k, 0, none⟩) 2 w' (hT.gr g) (strsAt2 h0 h1) (by simp) (by
          intro s hs
          simp at hs
          rcases hs with rfl | rfl
          · simp [ByteArray.size]
          · have : (Pk.text b.data.toList).length ≤ 9223372036854775807 := by omega
            simpa [ByteArray.size] using this)
        simpa [flat, Sl.front] using this
      have HL : Hid (∀ w : World, Calls Tryd.prog 55 #[.int .u64 (Sl.sum (Sl.front x b.data.toList) : Nat)] w fun e w' => e = .returned (.string ⟨(Sl.eight (Sl.sum (Sl.front x b.data.toList))).toArray⟩) ∧ Gr w w') := fun w => laidSum_any _ w
      have hel := Sl.eight_len (Sl.sum (Sl.front x b.data.toList))
      have ha1 := add_lists [231, UInt8.ofNat x] (Pk.text b.data.toList) (by simp only [List.length_cons, List.length_nil]; omega)
      have ha2 := add_lists (Sl.front x b.data.toList) (Sl.eight (Sl.sum (Sl.front x b.data.toList))) (by omega)
      have hfd : [231, UInt8.ofNat x] ++ Pk.text b.data.toList = Sl.front x b.data.toList := rfl
      rw [hfd] at ha1
      have hcv := fun w k => conv2 w k x hx
      have hw8 := w8 (x : Int) (by omega) (by omega)
      have htn : ((x : Nat) : Int).toNat = x := by omega
      rw [htn] at HE
      generalize Sl.sum (Sl.front x b.data.toList) = sm at *
      generalize Sl.eight sm = e8 at *
      generalize Sl.front x b.data.toList = fr at *
      generalize Pk.text b.data.toList = tx at *
      clear hfd htn hel hnl hfl hsz htl
      go_enter Tryd.func32, Tryd.ntmps32
      go_wp2_with fail
      refine (HV.out _).mono ?_
      rintro e w1 ⟨rfl, rfl⟩
      go_wp2_with fail
      go_region_with (go_at_call 54; refine (HX.out _).mono ?_; rintro e w1 ⟨rfl, hb1⟩; obtain ⟨hc1, hf1⟩ := hb1.cells)
      all_goals go_wp2_with fail
      all_goals refine (HS.out _ _ (by exact (by repeat (first | exact Gr.refl _ | refine Gr.alloc ?_ | refine Gr.drew ?_ | refine Gr.trans ?_ (by assumption)))) (by simp) (by simp)).mono ?_
      all_goals rintro e w3 ⟨rfl, rfl⟩
      all_goals go_wp2_with fail
      all_goals refine (HL.out _).mono ?_
      all_goals rintro e w4 ⟨rfl, hg4⟩
      all_goals go_wp2
      all_goals go_ret2
      all_goals exact ⟨by rw [HE.out]; rfl, (by repeat (first | exact Gr.refl _ | refine Gr.alloc ?_ | refine Gr.drew ?_ | refine Gr.trans ?_ (by assumption)))⟩
    · have HE : Hid (Sl.sealE v b.data.toList = ([], 3)) := by
        show _ = _
        rw [Sl.sealE, if_pos hv, if_neg (by omega)]
      clear hsz
      go_enter Tryd.func32, Tryd.ntmps32
      go_wp2_with fail
      refine (HV.out _).mono ?_
      rintro e w1 ⟨rfl, rfl⟩
      go_wp2
      go_ret2
      rw [HE.out]
      exact ⟨rfl, Gr.refl _⟩
  · rw [decide_eq_false hv] at HV
    have HE : Hid (Sl.sealE v b.data.toList = ([], 2)) := by
      show _ = _
      rw [Sl.sealE, if_neg hv]
    clear hsz
    go_enter Tryd.func32, Tryd.ntmps32
    go_wp2_with fail
    refine (HV.out _).mono ?_
    rintro e w1 ⟨rfl, rfl⟩
    go_wp2
    go_ret2
    rw [HE.out]
    exact ⟨rfl, Gr.refl _⟩
end Go.Proofs.YtojmhhmpmpbpfaaDoor
namespace Go.Proofs.YtojmhhmpmpbpfaaDoor
open Go.RowKit

end Go.Proofs.YtojmhhmpmpbpfaaDoor
namespace Go.Proofs.YtojmhhmpmpbpfaaDoor
open Go.RowKit
open Dk (Fl zf)

theorem Gr.builderAt {T e : TypeId} {B b : Nat} {p : Value} {bs : List Value} {w w' : World} (g : Gr w w') (h : Lib.BuilderAt T e B b p bs w) : Lib.BuilderAt T e B b p bs w' := by
  have hlt := h.lt
  obtain ⟨hB, v, hb, hown, hne⟩ := h
  refine ⟨hB, v, (g.below.block b hlt).trans hb, hown.kept g.grownBy ?_, hne⟩
  cases hv : v.ownBlock with
  | none => exact Or.inl rfl
  | some q => exact Or.inr (by simp)
theorem Gr.isBuilder {T e : TypeId} {B b : Nat} {bs : List Value} {w w' : World} (g : Gr w w') (h : Lib.IsBuilder T e B b bs w) : Lib.IsBuilder T e B b bs w' :=
  h.elim (fun h => Or.inl (g.builderAt h)) (fun h => Or.inr (g.builderAt h))

set_option maxHeartbeats 1000000 in
set_option maxRecDepth 100000 in
theorem begin_any (s : ByteArray) (w : World) (hT : Tab w) (hs : s.size ≤ 9223372036854775807) :
    Calls Tryd.prog 37 #[.string s] w fun e w' => e = .returned (.tuple #[.string ⟨(Sl.sealE 3 s.data.toList).1.toArray⟩, .int .i64 (Sl.sealE 3 s.data.toList).2]) ∧ Gr w w' := by
  have HS : Hid (∀ w', Gr w w' → Calls Tryd.prog 32 #[.int .i64 3, .string s] w' fun e w2 => e = .returned (.tuple #[.string ⟨(Sl.sealE 3 s.data.toList).1.toArray⟩, .int .i64 (Sl.sealE 3 s.data.toList).2]) ∧ Gr w' w2) := fun w' g => seal_any 3 s w' (hT.gr g) hs
  clear hT
  generalize Sl.sealE 3 s.data.toList = r at *
  obtain ⟨a, b⟩ := r
  go_enter Tryd.func37, Tryd.ntmps37
  go_wp2_with fail
  refine (HS.out _ (by repeat (first | exact Gr.refl _ | refine Gr.alloc ?_ | refine Gr.drew ?_ | refine Gr.trans ?_ (by assumption)))).mono ?_
  rintro e w1 ⟨rfl, hg1⟩
  go_wp2
  go_ret2
  exact ⟨rfl, (by repeat (first | exact Gr.refl _ | refine Gr.alloc ?_ | refine Gr.drew ?_ | refine Gr.trans ?_ (by assumption)))⟩

set_option maxHeartbeats 2000000 in
set_option maxRecDepth 100000 in
theorem next_any (L : List ByteArray) (ad : Option Addr) (cap : Nat) (w : World) (hT : Tab w) (hL : StrsAt w ad L) (hn : L.length ≤ 1000000) (hsz : ∀ s ∈ L, s.size ≤ 9223372036854775807) :
    Calls Tryd.prog 17 #[.slice ad L.length cap] w fun e w' => e = .returned (.tuple #[.string ⟨(Sg.next L).1.toArray⟩, .int .i64 ((Sg.next L).2 : Nat)]) ∧ Gr w w' := by
  have HT := Lib.hid hT
  have HL := Lib.hid hL
  have HZ := Lib.hid hsz
  have hfl : ∀ k, Sg.fit (L.take k) = true → (Sg.frs (L.take k)).length ≤ 30020 * k := by
    intro k hf
    have h1 := Sg.frs_len (L.take k)
    have h2 : ((L.take k).map (fun s => s.size)).sum ≤ 30000 * (L.take k).length := by
      have h3 := List.all_eq_true.1 hf
      generalize L.take k = l at *
      clear h1
      induction l with
      | nil => simp
      | cons s t ih =>
        have e1 := ih (List.all_eq_true.2 fun x hx => h3 x (by simp [hx])) (fun x hx => h3 x (by simp [hx]))
        have e2 : s.size ≤ 30000 := by simpa using h3 s (by simp)
        simp only [List.map_cons, List.sum_cons, List.length_cons]
        omega
    rw [List.length_take] at h1 h2
    omega
  have HF := Lib.hid hfl
  have hb0 : Lib.IsBuilder 73 5 w.heap.size w.heap.size [] (w.alloc (.cells #[.pointer none, .slice none 0 0] 73)) := Lib.fresh_isBuilder 73 5 w
  have HB0 := Lib.hid hb0
  clear hT hL hsz hfl hb0
  go_enter Tryd.func17, Tryd.ntmps17
  go_wp2
  go_loopw [11] (fun s11 wr => ∃ k : Nat, s11 = .int .i64 k ∧ k ≤ L.length ∧ Sg.fit (L.take k) = true ∧ Lib.IsBuilder 73 5 w.heap.size w.heap.size (Lib.byteCells (Sg.frs (L.take k))) wr ∧ Gr w wr) (fun s11 _ => L.length - (intOf s11).toNat)
  case atStart => exact ⟨0, rfl, Nat.zero_le _, by simp [Sg.fit], by rw [List.take_zero]; exact HB0.out, (Gr.refl _).alloc⟩
  case round =>
    clear HB0
    obtain ⟨k, rfl, hk, hft, hbd, hg⟩ := hrel
    by_cases hlt : k < L.length
    · obtain ⟨b, off, rfl, hb, hc⟩ := HL.out k hlt
      have hc := hg.keep hc
      have hki : (k : Int) < (L.length : Int) := by omega
      have hz := HZ.out L[k] (List.getElem_mem hlt)
      have HS : Hid (∀ w', Gr w w' → Calls Tryd.prog 32 #[.int .i64 3, .string L[k]] w' fun e w2 => e = .returned (.tuple #[.string ⟨(Sl.sealE 3 L[k].data.toList).1.toArray⟩, .int .i64 (Sl.sealE 3 L[k].data.toList).2]) ∧ Gr w' w2) := fun w' g => seal_any 3 L[k] w' (HT.out.gr g) hz
      have HM := Lib.hid (Sg.frs_more L k hlt)
      have HFT := Lib.hid (Sg.fit_take L k hlt hft)
      have hl6 := HF.out k hft
      have hsl := Sg.seal_len L[k]
      have HBd := Lib.hid hbd
      have HG := Lib.hid hg
      rw [Sg.seal3] at HS HM hsl
      by_cases hbg : L[k].size ≤ 30000
      · rw [if_pos hbg] at HS HM hsl
        rw [decide_eq_true hbg] at HFT
        generalize L[k] = x at *
        generalize Sl.frame 3 x.data.toList = tx at *
        generalize hacc : Sg.frs (L.take k) = acc at *
        clear hbd hg
        go_wp2_with fail
        refine (HS.out _ (HG.out.trans (by repeat (first | exact Gr.refl _ | refine Gr.alloc ?_ | refine Gr.drew ?_ | refine Gr.trans ?_ (by assumption))))).mono ?_
        rintro e w2 ⟨rfl, hg2⟩
        have gw2 : Gr wr w2 := (by repeat (first | exact Gr.refl _ | refine Gr.alloc ?_ | refine Gr.drew ?_ | refine Gr.trans ?_ (by assumption)))
        have hbd2 := gw2.isBuilder HBd.out
        have HG2 := Lib.hid (HG.out.trans gw2)
        have hlc : (Lib.byteCells acc).length + (⟨tx.toArray⟩ : ByteArray).size ≤ 140737488355328 := by
          rw [Lib.byteCells_length]; show acc.length + tx.toArray.size ≤ _; rw [List.size_toArray]; have hsl2 : tx.length ≤ x.size + 20 := hsl; omega
        have HWs := Lib.hid (Tryd.writeString w.heap.size w.heap.size (Lib.byteCells acc) ⟨tx.toArray⟩ w2 hbd2 hlc HG2.out.size)
        clear hbd2 hlc hg2 gw2
        go_wp2_with fail
        refine HWs.out.mono ?_
        rintro e w3 ⟨rfl, h3, b3⟩
        rw [Lib.strCells_eq, ← Lib.byteCells_append, show (⟨tx.toArray⟩ : ByteArray).data.toList = tx by simp, ← HM.out] at h3
        have HB3 : Hid (Lib.IsBuilder 73 5 w.heap.size w.heap.size (Lib.byteCells (Sg.frs (L.take (k + 1)))) w3) := Or.inr h3
        have HG3 : Hid (Gr w w3) := ⟨HG2.out.below.trans b3⟩
        clear h3 b3
        go_wp2
        go_roundw
        case rel => exact ⟨k + 1, by go_num, by omega, HFT.out, HB3.out, HG3.out⟩
        case measure => simp [intOf]; omega
      · have HN : Hid (Sg.next L = ([], 3)) := by show _ = _; unfold Sg.next; rw [Sg.fit_not L k hlt hbg]; rfl
        rw [if_neg hbg] at HS
        clear hbd hg HM HFT hsl
        generalize L[k] = x at *
        go_wp2_with fail
        refine (HS.out _ (HG.out.trans (by repeat (first | exact Gr.refl _ | refine Gr.alloc ?_ | refine Gr.drew ?_ | refine Gr.trans ?_ (by assumption))))).mono ?_
        rintro e w2 ⟨rfl, hg2⟩
        go_wp2
        go_ret2
        rw [HN.out]
        exact ⟨rfl, HG.out.trans (by repeat (first | exact Gr.refl _ | refine Gr.alloc ?_ | refine Gr.drew ?_ | refine Gr.trans ?_ (by assumption)))⟩
    · have hge : ¬ ((k : Int) < (L.length : Int)) := by omega
      have hall : L.take k = L := List.take_of_length_le (by omega)
      have HN : Hid (Sg.next L = (Sg.frs L, 0)) := by show _ = _; unfold Sg.next; rw [← hall, if_pos hft]
      rw [hall] at hbd
      have HG := Lib.hid hg
      have HSt := Lib.hid (Tryd.Builder_String_any w.heap.size w.heap.size _ wr hbd hg.size)
      clear hbd hg hall
      go_wp2_with fail
      refine HSt.out.mono ?_
      rintro e w3 ⟨rfl, hb3⟩
      have HG3 : Hid (Gr w w3) := ⟨HG.out.below.trans hb3⟩
      go_wp2
      go_ret2
      rw [HN.out]
      exact ⟨rfl, HG3.out⟩

set_option maxHeartbeats 1000000 in
set_option maxRecDepth 100000 in
theorem rise_any (L : List Fl) (ad : Option Addr) (cap : Nat) (w : World) (hL : FsAt w ad cap L) :
    Calls Tryd.prog 40 #[.slice ad L.length cap] w fun e w' => e = .returned (.bool (Sg.rise L)) ∧ Gr w w' := by
  have HL := Lib.hid hL.row
  have hl := hL.len
  have HR := Lib.hid hL.rng
  clear hL
  go_enter Tryd.func40, Tryd.ntmps40
  go_wp2
  go_loopw [3] (fun i wr => ∃ k : Nat, 1 ≤ k ∧ i = .int .i64 k ∧ (∀ j (h : j + 1 < L.length), j + 1 < k → (L[j]'(by omega)).n < L[j + 1].n) ∧ Gr w wr) (fun i _ => L.length - (intOf i).toNat)
  case atStart => exact ⟨1, Nat.le_refl _, rfl, by intro j _ h; omega, Gr.refl _⟩
  case round =>
    obtain ⟨k, hk, rfl, hup, hg⟩ := hrel
    have HU := Lib.hid hup
    have HG := Lib.hid hg
    by_cases hlt : k < L.length
    · obtain ⟨p, rfl⟩ : ∃ p, k = p + 1 := ⟨k - 1, by omega⟩
      obtain ⟨b, off, rfl, hb, c0, _⟩ := fl_at HL.out p (by omega)
      obtain ⟨b', off', e', hb', d0, _⟩ := fl_at HL.out (p + 1) hlt
      cases e'
      have c0 := hg.keep c0
      have d0 := hg.keep d0
      have hki : ((p + 1 : Nat) : Int) < (L.length : Int) := by omega
      have hpi : ((p + 1 : Nat) : Int) - 1 = (p : Int) := by omega
      have hpl : (p : Int) < (L.length : Int) := by omega
      have HN := Lib.hid (Sg.rise_not L p hlt)
      have HQ : Hid ((L[p]'(by omega)).n < L[p + 1].n → ∀ j (h : j + 1 < L.length), j + 1 < p + 1 + 1 → (L[j]'(by omega)).n < L[j + 1].n) := by
        intro h j hj hjp
        by_cases e : j = p
        · subst e; exact h
        · exact HU.out j hj (by omega)
      clear hup hg HU
      generalize hx : (L[p]'(by omega)).n = x at *
      generalize hy : L[p + 1].n = y at *
      by_cases hxy : y ≤ x
      · have d1 : decide (y ≤ x) = true := decide_eq_true hxy
        have HN2 := Lib.hid (HN.out hxy)
        go_wp2_with (go_quiet (fail))
        go_ret
        rw [HN2.out]
        exact ⟨rfl, HG.out.dn _⟩
      · have d1 : decide (y ≤ x) = false := decide_eq_false hxy
        have HQ2 := Lib.hid (HQ.out (by omega))
        go_wp2_with (go_quiet (fail))
        go_roundw
        case rel => exact ⟨p + 1 + 1, by omega, by go_num, HQ2.out, HG.out.dn _⟩
        case measure => simp [intOf]; omega
    · have hge : ¬ ((k : Int) < (L.length : Int)) := by omega
      have HN : Hid (Sg.rise L = true) := (Sg.rise_iff L).2 fun j hj => HU.out j hj (by omega)
      clear hup hg HU
      go_wp2
      go_ret
      rw [HN.out]
      exact ⟨rfl, HG.out⟩
end Go.Proofs.YtojmhhmpmpbpfaaDoor
