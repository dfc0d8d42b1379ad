/- Parts of these proofs, laid together. -/
import Derived.Test.YthaadiclopoamaaGreatDoorGF
import Derived.Test.YthaadiclopoamaaGreatDoorGJ
import Derived.WalkMore
import Derived.Deep.DeepCutAuto
/- lexic: scan and Scan. -/
set_option maxRecDepth 100000
set_option maxHeartbeats 8000000
namespace Go.Proofs.YthaadiclopoamaaGreatDoor
open Go.RowKit
open _root_.Go.Proofs.YthaadiclopoamaaGreatDoor.Act (letB digB sgnB nameB)
open Lex (blkB remB run Tok S)

/- a scanner in memory -/
structure ScAt (w : World) (b : Nat) (s : ByteArray) (k : Nat) (v : Value) : Prop where
 pl : PlAt w b s k
 c2 : w.cell? ⟨b, 2, none⟩ = some v
 f2 : w.frozen? ⟨b, 2, none⟩ = false
theorem ScAt.gr {w w' : World} {b : Nat} {s : ByteArray} {k : Nat} {v : Value} (h : ScAt w b s k v) (g : Gr w w') : ScAt w' b s k v :=
 ⟨h.pl.gr g, g.keep h.c2, g.keepF h.pl.lt h.f2⟩
theorem ScAt.po {w w' : World} {b : Nat} {s : ByteArray} {k k' : Nat} {v : Value} (h : ScAt w b s k v) (o : PO b w w') (p : PlAt w' b s k') : ScAt w' b s k' v :=
 ⟨p, (o.cell 2 (by omega) h.pl.lt).trans h.c2, (o.froz 2 h.pl.lt).trans h.f2⟩
theorem grown_cell {w w' : World} {r : Option Nat} (k : w.grownBy w' r) {g o : Nat} {v : Value} (hc : w.cell? ⟨g, o, none⟩ = some v) (hg : g < w.heap.size) (hne : some g ≠ r) : w'.cell? ⟨g, o, none⟩ = some v := by
 rw [<- hc]; exact World.cell?_of_block (w := w) (k.block g hg hne)
theorem grown_frozen {w w' : World} {r : Option Nat} (k : w.grownBy w' r) {g o : Nat} {v : Bool} (hc : w.frozen? ⟨g, o, none⟩ = v) (hg : g < w.heap.size) (hne : some g ≠ r) : w'.frozen? ⟨g, o, none⟩ = v := by
 rw [<- hc]; exact World.frozen?_of_block (w := w) (k.block g hg hne)
theorem ScAt.grown {w w' : World} {b : Nat} {s : ByteArray} {k : Nat} {v : Value} (h : ScAt w b s k v) {r : Option Nat} (g : w.grownBy w' r) (hne : some b ≠ r) : ScAt w' b s k v :=
 ⟨⟨grown_cell g h.pl.c0 h.pl.lt hne, grown_cell g h.pl.c1 h.pl.lt hne, grown_frozen g h.pl.f1 h.pl.lt hne, Nat.lt_of_lt_of_le h.pl.lt g.size⟩, grown_cell g h.c2 h.pl.lt hne, grown_frozen g h.f2 h.pl.lt hne⟩
theorem ScAt.set2 {w : World} {b : Nat} {s : ByteArray} {k : Nat} {v : Value} (h : ScAt w b s k v) (u : Value) : ScAt (w.setCell ⟨b, 2, none⟩ u) b s k u := by
 obtain ⟨⟨h0, h1, f1, hl⟩, h2, f2⟩ := h
 exact ⟨⟨by simp [go_sem, *], by simp [go_sem, *], by simp [go_sem, *], by simpa using hl⟩, by simp [go_sem, *], by simp [go_sem, *]⟩
theorem ScAt.setFar {w : World} {b : Nat} {s : ByteArray} {k : Nat} {v : Value} (h : ScAt w b s k v) (p : Addr) (u : Value) (hp : p.block ≠ b) : ScAt (w.setCell p u) b s k v :=
 ⟨h.pl.setFar p u hp, by rw [World.cell?_setCell_far _ _ _ _ (by simpa using hp)]; exact h.c2, by rw [World.frozen?_setCell]; exact h.f2⟩
/- a fault in memory -/
structure FaAt (w : World) (g : Nat) (x y : Int) : Prop where
 c0 : w.cell? ⟨g, 0, none⟩ = some (.int .i64 x)
 c1 : w.cell? ⟨g, 1, none⟩ = some (.int .i64 y)
 f0 : w.frozen? ⟨g, 0, none⟩ = false
 f1 : w.frozen? ⟨g, 1, none⟩ = false
 lt : g < w.heap.size
theorem FaAt.new (w : World) (x y : Int) (t : TypeId) (g : Nat) (hg : g = w.heap.size) : FaAt (w.alloc (.cells #[.int .i64 x, .int .i64 y] t)) g x y := by
 subst hg
 exact ⟨by simp, by simp, by simp [go_sem], by simp [go_sem], by simp⟩
theorem FaAt.gr {w w' : World} {g : Nat} {x y : Int} (h : FaAt w g x y) (k : Gr w w') : FaAt w' g x y :=
 ⟨k.keep h.c0, k.keep h.c1, k.keepF h.lt h.f0, k.keepF h.lt h.f1, Nat.lt_of_lt_of_le h.lt k.size⟩
theorem FaAt.grown {w w' : World} {g : Nat} {x y : Int} (h : FaAt w g x y) {r : Option Nat} (k : w.grownBy w' r) (hne : some g ≠ r) : FaAt w' g x y :=
 ⟨grown_cell k h.c0 h.lt hne, grown_cell k h.c1 h.lt hne, grown_frozen k h.f0 h.lt hne, grown_frozen k h.f1 h.lt hne, Nat.lt_of_lt_of_le h.lt k.size⟩
theorem FaAt.setFar {w : World} {g : Nat} {x y : Int} (h : FaAt w g x y) (p : Addr) (u : Value) (hp : p.block ≠ g) : FaAt (w.setCell p u) g x y := by
 obtain ⟨c0, c1, f0, f1, lt⟩ := h
 refine ⟨?_, ?_, ?_, ?_, by simpa using lt⟩
 ·rw [World.cell?_setCell_far _ _ _ _ (by simpa using hp)]; exact c0
 ·rw [World.cell?_setCell_far _ _ _ _ (by simpa using hp)]; exact c1
 ·rw [World.frozen?_setCell]; exact f0
 ·rw [World.frozen?_setCell]; exact f1
theorem grown_trans {a b c : World} {r : Option Nat} (h : a.grownBy b r) (k : b.grownBy c r) : a.grownBy c r := by
 have := h.size
 exact ⟨k.os.trans h.os, k.tape.trans h.tape, k.output.trans h.output, Nat.le_trans h.size k.size, fun i hi hne => (k.block i (by omega) hne).trans (h.block i hi hne)⟩
theorem grown_gr {a b : World} (r : Option Nat) (g : Gr a b) : a.grownBy b r := ⟨g.below.os, g.below.tape, g.below.output, g.size, fun k hk _ => g.below.block k hk⟩
theorem grown_other {a b c : World} {x : Nat} {r : Option Nat} (h : a.grownBy b (some x)) (k : b.grownBy c r) (hr : ∀ g, r = some g -> a.heap.size <= g) : a.grownBy c (some x) := by
 have := h.size
 exact ⟨k.os.trans h.os, k.tape.trans h.tape, k.output.trans h.output, Nat.le_trans h.size k.size, fun i hi hne => (k.block i (by omega) (fun e => by have := hr i e.symm; omega)).trans (h.block i hi hne)⟩
theorem grown_set (w : World) (p : Addr) (u : Value) : w.grownBy (w.setCell p u) (some p.block) :=
 ⟨rfl, rfl, rfl, by simp [World.setCell], fun k _ hk => Below.heap_setCell _ _ _ _ (fun e => hk (by rw [e]))⟩
theorem own_far {w : World} {base : Nat} {e : TypeId} {size n : Nat} {v : Value} {xs : List Value} (h : w.ownsRow base e size v n xs) (p : Addr) (u : Value) (hp : v.ownBlock ≠ some p.block) : (w.setCell p u).ownsRow base e size v n xs :=
 h.kept (grown_set w p u) (Or.inr hp)
theorem own_po {w w' : World} {b base : Nat} {e : TypeId} {size n : Nat} {v : Value} {xs : List Value} (h : w.ownsRow base e size v n xs) (k : w.grownBy w' (some b)) (hb : b < base) : w'.ownsRow base e size v n xs :=
 h.kept k (Or.inr (fun e => by have := (h.lt _ e).1; omega))

theorem keep4 {a b : World} {p q r t : Addr} {x y z u : Value} (h : a.cell? p = some x /\ a.cell? q = some y /\ a.cell? r = some z /\ a.cell? t = some u) (g : Gr a b) : b.cell? p = some x /\ b.cell? q = some y /\ b.cell? r = some z /\ b.cell? t = some u :=
 ⟨g.keep h.1, g.keep h.2.1, g.keep h.2.2.1, g.keep h.2.2.2⟩

theorem keep4g {a b : World} {p q r t : Addr} {x y z u : Value} (h : a.cell? p = some x /\ a.cell? q = some y /\ a.cell? r = some z /\ a.cell? t = some u) {o : Option Nat} (g : a.grownBy b o) (h1 : some p.block ≠ o) (h2 : some q.block ≠ o) (h3 : some r.block ≠ o) (h4 : some t.block ≠ o) : b.cell? p = some x /\ b.cell? q = some y /\ b.cell? r = some z /\ b.cell? t = some u :=
 ⟨g.cell h.1 h1, g.cell h.2.1 h2, g.cell h.2.2.1 h3, g.cell h.2.2.2 h4⟩

/- where the loop stands -/
structure ScI (w : World) (b : Nat) (s : ByteArray) (wr : World) (k : Nat) (T : List Tok) (ad : Option Addr) (cap : Nat) : Prop where
 le : k <= s.size
 tl : T.length <= k
 sc : ScAt wr b s k (.slice ad T.length cap)
 fa : FaAt wr w.heap.size 0 0
 own : wr.ownsRow (w.heap.size + 1) 167 3 (.slice ad T.length cap) T.length (tokV T)
 gb : w.grownBy wr (some b)
 eq : S s.data.toList 0 = (T ++ (S (s.data.toList.drop k) k).1, (S (s.data.toList.drop k) k).2)
theorem ScI.step {w : World} {b : Nat} {s : ByteArray} {wr w' : World} {k k' : Nat} {T : List Tok} {ad : Option Addr} {cap : Nat} (h : ScI w b s wr k T ad cap) (hb : b < w.heap.size) (o : PO b wr w') (p : PlAt w' b s k') (hk : k <= k') (hk' : k' <= s.size)
  (he : S (s.data.toList.drop k) k = S (s.data.toList.drop k') k') : ScI w b s w' k' T ad cap :=
 ⟨hk', by have := h.tl; omega, h.sc.po o p, h.fa.grown o.grown (by simp; omega), own_po h.own o.grown (by omega), grown_trans h.gb o.grown, by rw [h.eq, he]⟩
theorem ScI.gr {w : World} {b : Nat} {s : ByteArray} {wr w' : World} {k : Nat} {T : List Tok} {ad : Option Addr} {cap : Nat} (h : ScI w b s wr k T ad cap) (hb : b < w.heap.size) (g : Gr wr w') : ScI w b s w' k T ad cap :=
 h.step hb (PO.ofGr g) (h.sc.pl.gr g) (Nat.le_refl _) h.le rfl

theorem scan_any (b : Nat) (s : ByteArray) (w : World) (h : ScAt w b s 0 (.slice none 0 0)) (hs : s.size <= 2000) :
  Calls Tryz.prog 132 #[.pointer (some ⟨b, 0, none⟩)] w fun e w' => ∃ x y : Int, e = .returned (.agg #[.int .i64 x, .int .i64 y]) /\ w.grownBy w' (some b) /\
   (((S s.data.toList 0).2 = none /\ x = 0 /\ y = 0 /\ ∃ ad cap, ScAt w' b s s.size (.slice ad (S s.data.toList 0).1.length cap) /\ (S s.data.toList 0).1.length <= cap /\ ToksAt w' ad (S s.data.toList 0).1 /\ ∀ a, ad = some a -> w.heap.size <= a.block) ∨ (∃ p : Nat, (S s.data.toList 0).2 = some p /\ x = 80 /\ y = p)) := by
 obtain ⟨i0, hi, hz0, hz1, hz2⟩ := info_parts3 infoTok
 have hl0 : s.data.toList.length = s.size := by simp
 have HO : Hid (∀ (m : Nat) (w' : World), PlAt w' b s m -> Calls Tryz.prog 151 #[.pointer (some ⟨b, 0, none⟩)] w' fun e w2 => e = .returned (.bool (decide (s.size <= m))) /\ Gr w' w2) := fun m w' g => lOver_any b s m w' g
 have HH : Hid (∀ (m : Nat) (hm : m < s.size) (w' : World), PlAt w' b s m -> Calls Tryz.prog 152 #[.pointer (some ⟨b, 0, none⟩)] w' fun e w2 => e = .returned (.int .u8 ((s[m]'hm).toNat : Int)) /\ Gr w' w2) := fun m hm w' g => here_any b s m w' g hm
 have HB : Hid (∀ (c : UInt8) (w : World), Calls Tryz.prog 153 #[.int .u8 (c.toNat : Int)] w fun e w' => e = .returned (.bool (blkB c)) /\ w' = w) := blank_any
 have HTB : Hid (∀ (k : Nat) (w' : World), PlAt w' b s k -> k <= s.size -> Calls Tryz.prog 154 #[.pointer (some ⟨b, 0, none⟩), .func (.func 153) #[] #[]] w' fun e w2 => e = .returned (.string (s.extract k (k + run blkB (s.data.toList.drop k)))) /\ PlAt w2 b s (k + run blkB (s.data.toList.drop k)) /\ PO b w' w2) := fun k w' g hk => takeAllBlk b s k w' g hk (by omega)
 have HTR : Hid (∀ (k : Nat) (w' : World), PlAt w' b s k -> k <= s.size -> Calls Tryz.prog 154 #[.pointer (some ⟨b, 0, none⟩), .func (.func 155) #[] #[]] w' fun e w2 => e = .returned (.string (s.extract k (k + run remB (s.data.toList.drop k)))) /\ PlAt w2 b s (k + run remB (s.data.toList.drop k)) /\ PO b w' w2) := fun k w' g hk => takeAllRem b s k w' g hk (by omega)
 have HT : Hid (∀ (k : Nat) (hk : k < s.size) (w' : World), PlAt w' b s k -> Calls Tryz.prog 156 #[.pointer (some ⟨b, 0, none⟩)] w' fun e w2 => e = .returned (.agg #[.int .i64 (Lex.fk (s[k]'hk)), .string (Lex.pc (s.data.toList.drop k)), .int .i64 (k : Int)]) /\ PlAt w2 b s (k + Lex.tl (s.data.toList.drop k)) /\ PO b w' w2) := fun k hk w' g => token_any b s k w' g hk hs
 have HM : Hid (∀ (k : Int) (x : ByteArray) (p : Int) (w' : World), x.size <= 2000 -> Calls Tryz.prog 157 #[.agg #[.int .i64 k, .string x, .int .i64 p]] w' fun e w2 => e = .returned (.bool (Lex.mayB k x)) /\ Gr w' w2) := fun k x p w' hx => mayBe_any k x p w' (by omega)
 have hbl : b < w.heap.size := h.pl.lt
 have HI0 : Hid (ScI w b s (w.alloc (.cells #[.int .i64 0, .int .i64 0] 136)) 0 [] none 0) := ⟨by omega, by simp, h.gr (Gr.refl _).alloc, FaAt.new w 0 0 136 _ rfl, World.ownsRow_nil _ _ _ _, grown_gr _ (Gr.refl _).alloc, by simp⟩
 clear h
 go_enter Tryz.func132, Tryz.ntmps132
 go_wp2
 go_step3
 go_wp2
 go_step3
 go_wp2
 go_loopw [] (fun wr => ∃ (k : Nat) (T : List Tok) (ad : Option Addr) (cap : Nat), ScI w b s wr k T ad cap) (fun wr => s.size - intCell (wr.cell? ⟨b, 1, none⟩))
 case atStart => exact ⟨0, [], none, 0, HI0.out⟩
 case round =>
  obtain ⟨k, T, ad, cap, hI⟩ := hrel
  have HI : Hid (ScI w b s wr k T ad cap) := hI
  have hmc : intCell (wr.cell? ⟨b, 1, none⟩) = k := by rw [hI.sc.pl.c1]; rfl
  have hks : k <= s.size := hI.le
  clear hI HI0
  by_cases hlt : k < s.size
  ·have hdr : s.data.toList.drop k = (s[k]'hlt) :: s.data.toList.drop (k + 1) := Lex.drop_get s.data.toList k (by omega)
   have hdc : decide (s.size <= k) = false := decide_eq_false (by omega)
   go_wp2_with fail
   refine (HO.out k _ HI.out.sc.pl).mono ?_
   rintro e w1 ⟨rfl, hg1⟩
   rw [hdc]
   have HI1 : Hid (ScI w b s w1 k T ad cap) := HI.out.gr hbl hg1
   clear hg1 hdc
   go_wp2_with fail
   refine (HH.out k hlt _ HI1.out.sc.pl).mono ?_
   rintro e w2 ⟨rfl, hg2⟩
   have HI2 : Hid (ScI w b s w2 k T ad cap) := HI1.out.gr hbl hg2
   clear hg2 HI1
   go_wp2_with fail
   refine (HB.out (s[k]'hlt) _).mono ?_
   rintro e w3 ⟨rfl, hw3⟩
   obtain rfl := hw3.symm
   cases hbk : blkB (s[k]'hlt) with
   | true =>
    have hr1 : 1 <= run blkB (s.data.toList.drop k) := by rw [hdr, Lex.run_yes _ hbk]; omega
    have hr2 : k + run blkB (s.data.toList.drop k) <= s.size := by have := Lex.run_le blkB (s.data.toList.drop k); simp at this; omega
    have HE : Hid (S (s.data.toList.drop k) k = S (s.data.toList.drop (k + run blkB (s.data.toList.drop k))) (k + run blkB (s.data.toList.drop k))) := by
     show _ = _
     rw [<- List.drop_drop]; exact Lex.S_blanks _ k
    clear hdr hbk
    go_wp2_with fail
    refine (HTB.out k _ HI2.out.sc.pl hks).mono ?_
    rintro e w4 ⟨rfl, hp4, ho4⟩
    have HI4 : Hid (ScI w b s w4 (k + run blkB (s.data.toList.drop k)) T ad cap) := HI2.out.step hbl ho4 hp4 (by omega) hr2 HE.out
    clear hp4 ho4 HI2 HE
    go_wp2
    go_roundw
    case rel => exact ⟨_, T, ad, cap, HI4.out⟩
    case measure =>
     rw [hmc, show intCell (w4.cell? ⟨b, 1, none⟩) = k + run blkB (s.data.toList.drop k) by rw [HI4.out.sc.pl.c1]; rfl]
     omega
   | false =>
    by_cases h35 : ((s[k]'hlt).toNat : Int) = 35
    ·have hr1 : 1 <= run remB (s.data.toList.drop k) := by rw [hdr]; exact Lex.rem_pos _ h35
     have hr2 : k + run remB (s.data.toList.drop k) <= s.size := by have := Lex.run_le remB (s.data.toList.drop k); simp at this; omega
     have HE : Hid (S (s.data.toList.drop k) k = S (s.data.toList.drop (k + run remB (s.data.toList.drop k))) (k + run remB (s.data.toList.drop k))) := by
      show _ = _
      rw [<- List.drop_drop]
      generalize hx : s.data.toList.drop k = x at *
      rw [hdr]
      exact Lex.S_rem _ k hbk h35
     have e35 : (((s[k]'hlt).toNat : Int) == 35) = true := by simpa using h35
     clear hdr hbk h35
     go_wp2_with fail
     refine (HTR.out k _ HI2.out.sc.pl hks).mono ?_
     rintro e w4 ⟨rfl, hp4, ho4⟩
     have HI4 : Hid (ScI w b s w4 (k + run remB (s.data.toList.drop k)) T ad cap) := HI2.out.step hbl ho4 hp4 (by omega) hr2 HE.out
     clear hp4 ho4 HI2 HE
     go_wp2
     go_roundw
     case rel => exact ⟨_, T, ad, cap, HI4.out⟩
     case measure =>
      rw [hmc, show intCell (w4.cell? ⟨b, 1, none⟩) = k + run remB (s.data.toList.drop k) by rw [HI4.out.sc.pl.c1]; rfl]
      omega
    ·have e35 : (((s[k]'hlt).toNat : Int) == 35) = false := by simpa using h35
     have hr1 : 1 <= Lex.tl (s.data.toList.drop k) := by rw [hdr]; exact Lex.tl_pos _ _
     have hr2 : k + Lex.tl (s.data.toList.drop k) <= s.size := by have := Lex.tl_le (s.data.toList.drop k); simp at this; omega
     have hpz : (Lex.pc (s.data.toList.drop k)).size <= 2000 := by rw [Lex.pc_size]; omega
     have hkd : Lex.kd (Lex.pc (s.data.toList.drop k)) = if Lex.mayB (Lex.fk (s[k]'hlt)) (Lex.pc (s.data.toList.drop k)) = true then Lex.fk (s[k]'hlt) else 0 := by rw [hdr]; exact Lex.kd_first _ _
     have hf3 : Lex.fk (s[k]'hlt) ≠ 0 := by unfold Lex.fk; split; omega; split <;> omega
     have HE1 : Hid (Lex.mayB (Lex.fk (s[k]'hlt)) (Lex.pc (s.data.toList.drop k)) = false -> S (s.data.toList.drop k) k = ([], some k)) := by
      intro h
      rw [h] at hkd
      rw [hdr] at hkd ⊢
      exact Lex.S_bad _ k hbk h35 hkd
     have HE2 : Hid (Lex.mayB (Lex.fk (s[k]'hlt)) (Lex.pc (s.data.toList.drop k)) = true -> S (s.data.toList.drop k) k = (⟨Lex.fk (s[k]'hlt), Lex.pc (s.data.toList.drop k), k⟩ :: (S (s.data.toList.drop (k + Lex.tl (s.data.toList.drop k))) (k + Lex.tl (s.data.toList.drop k))).1, (S (s.data.toList.drop (k + Lex.tl (s.data.toList.drop k))) (k + Lex.tl (s.data.toList.drop k))).2)) := by
      intro h
      rw [h, if_pos rfl] at hkd
      rw [<- hkd, <- List.drop_drop]
      have hk0 : ¬ Lex.kd (Lex.pc (s.data.toList.drop k)) = 0 := by rw [hkd]; exact hf3
      generalize hx : s.data.toList.drop k = x at *
      subst hdr
      exact Lex.S_tok _ k hbk h35 hk0
     clear hdr hbk h35 hkd hf3
     have HTk : Hid (∀ (w' : World), PlAt w' b s k -> Calls Tryz.prog 156 #[.pointer (some ⟨b, 0, none⟩)] w' fun e w2 => e = .returned (.agg #[.int .i64 (Lex.fk (s[k]'hlt)), .string (Lex.pc (s.data.toList.drop k)), .int .i64 (k : Int)]) /\ PlAt w2 b s (k + Lex.tl (s.data.toList.drop k)) /\ PO b w' w2) := HT.out k hlt
     have HMk : Hid (∀ (w' : World), Calls Tryz.prog 157 #[.agg #[.int .i64 (Lex.fk (s[k]'hlt)), .string (Lex.pc (s.data.toList.drop k)), .int .i64 (k : Int)]] w' fun e w2 => e = .returned (.bool (Lex.mayB (Lex.fk (s[k]'hlt)) (Lex.pc (s.data.toList.drop k)))) /\ Gr w' w2) := fun w' => HM.out _ _ _ w' hpz
     clear HT HM HTB HTR HO HH HB
     generalize Lex.fk (s[k]'hlt) = fk at *
     generalize Lex.pc (s.data.toList.drop k) = px at *
     have hr3 : k < k + Lex.tl (s.data.toList.drop k) := by omega
     generalize k + Lex.tl (s.data.toList.drop k) = kn at *
     clear hr1
     go_wp2_with fail
     refine (HTk.out _ HI2.out.sc.pl).mono ?_
     rintro e w4 ⟨rfl, hp4, ho4⟩
     have HC4 : Hid (ScAt w4 b s kn (.slice ad T.length cap)) := HI2.out.sc.po ho4 hp4
     have HF4 : Hid (FaAt w4 w.heap.size 0 0) := HI2.out.fa.grown ho4.grown (by simp; omega)
     have HO4 : Hid (w4.ownsRow (w.heap.size + 1) 167 3 (.slice ad T.length cap) T.length (tokV T)) := own_po HI2.out.own ho4.grown (by omega)
     have HG4 : Hid (w.grownBy w4 (some b)) := grown_trans HI2.out.gb ho4.grown
     have HQ : Hid (S s.data.toList 0 = (T ++ (S (s.data.toList.drop k) k).1, (S (s.data.toList.drop k) k).2)) := HI2.out.eq
     have hTk : T.length <= k := HI2.out.tl
     clear hp4 ho4 HI2
     go_wp2_with fail
     refine (HMk.out _).mono ?_
     rintro e w5 ⟨rfl, hg5⟩
     have HX5 : Hid (BoxAt w5 w4.heap.size (.int .i64 fk) (.string px) (.int .i64 (k : Int))) := (BoxAt.new w4 _ _ _ _ _ rfl).gr hg5
     have g45 : Gr w4 w5 := (Gr.refl _).alloc.trans hg5
     have HC5 : Hid (ScAt w5 b s kn (.slice ad T.length cap)) := HC4.out.gr g45
     have HF5 : Hid (FaAt w5 w.heap.size 0 0) := HF4.out.gr g45
     have HO5 : Hid (w5.ownsRow (w.heap.size + 1) 167 3 (.slice ad T.length cap) T.length (tokV T)) := HO4.out.kept (grown_gr none g45) (own_or _)
     have HG5 : Hid (w.grownBy w5 (some b)) := grown_trans HG4.out (grown_gr _ g45)
     have hs5 : w.heap.size < w4.heap.size := HF4.out.lt
     have hBn : some w4.heap.size ≠ (Value.slice ad T.length cap).ownBlock := fun e => by have := (HO4.out.lt _ e.symm).2; omega
     clear g45 hg5 HC4 HF4 HO4 HG4
     cases hmb : Lex.mayB fk px with
     | false =>
      have HE : Hid ((S s.data.toList 0).2 = some k) := by show _ = _; rw [HQ.out, HE1.out hmb]
      obtain ⟨x0, x1, x2, _, _, _, xl⟩ := HX5.out
      obtain ⟨r0, r1, f0, f1, rl⟩ := HF5.out
      clear hmb
      go_wp2
      try rw [Exit.noGoto_ret]
      exact bodyPost_ret (v := .agg #[.int .i64 80, .int .i64 (k : Int)]) (by simp [results, Tryz.results132, go_sem, *]) rfl ⟨80, k, rfl, grown_other (grown_other HG5.out (grown_set _ _ _) (by simp)) (grown_set _ _ _) (by simp), Or.inr ⟨k, HE.out, rfl, rfl⟩⟩
     | true =>
      have HE : Hid (S s.data.toList 0 = ((T ++ [⟨fk, px, k⟩]) ++ (S (s.data.toList.drop kn) kn).1, (S (s.data.toList.drop kn) kn).2)) := by show _ = _; rw [HQ.out, HE2.out hmb]; simp
      clear hmb HQ HE1 HE2
      have bne : ∀ {v : Value} {wx : World} {n : Nat} {xs : List Value}, wx.ownsRow (w.heap.size + 1) 167 3 v n xs -> ∀ i, i <= w.heap.size -> some i ≠ v.ownBlock := fun h i hi e => by have := (h.lt _ e.symm).1; omega
      go_upto_region 10 with fail
      obtain ⟨x0, x1, x2, _, _, _, xl⟩ := HX5.out
      obtain ⟨B, hB⟩ : ∃ B, w4.heap.size = B := ⟨_, rfl⟩
      rw [hB] at x0 x1 x2 xl hBn hs5 ⊢
      clear hB HX5
      have hk : w5.drew.cell? ⟨b, 2, none⟩ = some (.slice ad T.length cap) /\ w5.drew.cell? ⟨B, 0, none⟩ = some (.int .i64 fk) /\ w5.drew.cell? ⟨B, 1, none⟩ = some (.string px) /\ w5.drew.cell? ⟨B, 2, none⟩ = some (.int .i64 (k : Int)) := ⟨HC5.out.c2, x0, x1, x2⟩
      clear x0 x1 x2
      refine beginL 10 (fun w' => w'.cell? ⟨b, 2, none⟩ = some (.slice ad T.length cap) /\ w'.cell? ⟨B, 0, none⟩ = some (.int .i64 fk) /\ w'.cell? ⟨B, 1, none⟩ = some (.string px) /\ w'.cell? ⟨B, 2, none⟩ = some (.int .i64 (k : Int))) (by kernel_rfl) (by first | with_reducible exact hk | with_reducible exact keep4 hk (Gr.refl _).alloc) (fun hHeld => ?_)
      obtain ⟨W, hW⟩ : ∃ W, W = w5.drew := ⟨_, rfl⟩
      rw [<- hW] at hk ⊢ hHeld
      have gW : Gr w5 W := by rw [hW]; exact (Gr.refl _).drew
      clear hW
      refine takeW 0 36 (v := ?_) rfl rfl (by decide) (by kernel_rfl) (by kernel_rfl) (by kernel_rfl) (fun _ _ _ h => h) (by rfl) ?_ (fun _ => hHeld) ?_
      rotate_left
      ·(intro w; (try intro hSw); (try dsimp only at hSw); go_simp; try with_reducible rfl)
      simp only [Act.put, List.setIfInBounds_toArray, List.set_cons_zero, List.set_cons_succ]
      refine takeW 1 37 (v := ?_) rfl rfl (by decide) (by kernel_rfl) (by kernel_rfl) (by kernel_rfl) (fun _ _ _ h => h) (by rfl) ?_ (fun _ => hHeld) ?_
      rotate_left
      ·(intro w; (try intro hSw); (try dsimp only at hSw); go_simp; try with_reducible rfl)
      simp only [Act.put, List.setIfInBounds_toArray, List.set_cons_zero, List.set_cons_succ]
      refine takeW 2 38 (v := ?_) rfl rfl (by decide) (by kernel_rfl) (by kernel_rfl) (by kernel_rfl) (fun _ _ _ h => h) (by rfl) ?_ (fun _ => hHeld) ?_
      rotate_left
      ·(intro w; (try intro hSw); (try dsimp only at hSw); go_simp; try with_reducible rfl)
      simp only [Act.put, List.setIfInBounds_toArray, List.set_cons_zero, List.set_cons_succ]
      refine takeW 3 39 (v := ?_) rfl rfl (by decide) (by kernel_rfl) (by kernel_rfl) (by kernel_rfl) (fun _ _ _ h => h) (by rfl) ?_ (fun _ => hHeld) ?_
      rotate_left
      ·(intro w; (try intro hSw); (try dsimp only at hSw); go_simp; try with_reducible rfl)
      simp only [Act.put, List.setIfInBounds_toArray, List.set_cons_zero, List.set_cons_succ]
      refine takeS 4 40 (v := ?_) rfl rfl (by decide) (by kernel_rfl) (by kernel_rfl) (by kernel_rfl) (by kernel_rfl) (by kernel_rfl) (fun _ _ _ h => h) (by rfl) ?_ hHeld ?_
      rotate_left
      ·(intro w; (try intro hSw); (try dsimp only at hSw); go_simp; try with_reducible rfl)
      simp only [Act.put, List.setIfInBounds_toArray, List.set_cons_zero, List.set_cons_succ]
      refine takeS 5 41 (v := ?_) rfl rfl (by decide) (by kernel_rfl) (by kernel_rfl) (by kernel_rfl) (by kernel_rfl) (by kernel_rfl) (fun _ _ _ h => h) (by rfl) ?_ hHeld ?_
      rotate_left
      ·(intro w; (try intro hSw); (try dsimp only at hSw); go_simp; try with_reducible rfl)
      simp only [Act.put, List.setIfInBounds_toArray, List.set_cons_zero, List.set_cons_succ]
      refine stepC 6 (by kernel_rfl) rfl (fun K hK => ?_)
      go_simp
      refine hK.out _ _ (by first | with_reducible exact hk | with_reducible exact keep4 hk (Gr.refl _).alloc) (fun hHeldN => ?_)
      clear hHeld hK K
      have hHeld := hHeldN
      clear hHeldN
      have HO6 : Hid (World.ownsRow (W.alloc (.cells #[.int .i64 fk, .string px, .int .i64 (k : Int)] 167)) (w.heap.size + 1) 167 3 (.slice ad T.length cap) T.length (tokV T)) := HO5.out.kept (grown_gr none gW.alloc) (own_or _)
      have HN6 : Hid (∀ j u, (tokV [⟨fk, px, k⟩])[j]? = some u -> (W.alloc (.cells #[.int .i64 fk, .string px, .int .i64 (k : Int)] 167)).cell? ((⟨W.heap.size, 0, none⟩ : Addr).add j) = some u) := toks_lit1 W ⟨fk, px, k⟩ 167
      have hwz : w.heap.size + 1 <= (W.alloc (.cells #[.int .i64 fk, .string px, .int .i64 (k : Int)] 167)).heap.size := by have := HF5.out.lt; have := gW.size; simp; omega
      refine stepC 7 (by kernel_rfl) rfl (fun K hK => ?_)
      (refine step_append_own (by rfl) _ _ 161 (by rfl) (w.heap.size + 1) 167 i0 (.agg #[.int .i64 0, .string ⟨#[]⟩, .int .i64 0]) 3 32 Tryz.underlying161 hi hz0 hz1 hz2 rfl (by decide) _ _ _ (by rfl) HO6.out ⟨W.heap.size, 0, none⟩ 1 1 (tokV [⟨fk, px, k⟩]) (by rfl) (by rfl) HN6.out (tokV_one _) (by unfold maxLen; omega) (by omega) hwz ?_; intro v6 w6 ho6 hgr6 hn6; replace hk : w6.cell? ⟨b, 2, none⟩ = some (.slice ad T.length cap) /\ w6.cell? ⟨B, 0, none⟩ = some (.int .i64 fk) /\ w6.cell? ⟨B, 1, none⟩ = some (.string px) /\ w6.cell? ⟨B, 2, none⟩ = some (.int .i64 (k : Int)) := keep4g (keep4 hk (Gr.refl W).alloc) hgr6 (bne HO6.out b (by omega)) hBn hBn hBn)
      refine hK.out (Act.put _ (some 43) v6) _ (by first | with_reducible exact hk | with_reducible exact keep4 hk (Gr.refl _).alloc) (fun hHeldN => ?_)
      clear hHeld hK K
      have hHeld := hHeldN
      clear hHeldN
      simp only [Act.put, List.setIfInBounds_toArray, List.set_cons_zero, List.set_cons_succ]
      obtain ⟨a6, c6, rfl, hc6, _⟩ := own_toks (L := T ++ [⟨fk, px, k⟩]) (by rw [List.length_append, tokV_app]; exact ho6)
      rw [List.length_append, List.length_singleton] at *
      have gA : Gr w5 (W.alloc (.cells #[.int .i64 fk, .string px, .int .i64 (k : Int)] 167)) := gW.alloc
      have HC6 : Hid (ScAt w6 b s kn (.slice ad T.length cap)) := (HC5.out.gr gA).grown hgr6 (bne HO6.out b (by omega))
      have HF6 : Hid (FaAt w6 w.heap.size 0 0) := (HF5.out.gr gA).grown hgr6 (bne HO6.out _ (by omega))
      have HG6 : Hid (w.grownBy w6 (some b)) := grown_other (grown_trans HG5.out (grown_gr _ gA)) hgr6 (fun g e => by have := (HO6.out.lt g e).1; omega)
      have HR6 : Hid (w6.ownsRow (w.heap.size + 1) 167 3 (.slice a6 (T.length + 1) c6) (T.length + 1) (tokV T ++ tokV [⟨fk, px, k⟩])) := ho6
      obtain ⟨⟨q0, q1, qf1, ql⟩, q2, qf2⟩ := HC6.out
      clear ho6 hgr6 hn6 HO6 HN6 HO5 HC5 HF5 HG5 gA gW hwz
      refine takeW 8 44 (v := ?_) rfl rfl (by decide) (by kernel_rfl) (by kernel_rfl) (by kernel_rfl) (fun _ _ _ h => h) (by rfl) ?_ (fun _ => hHeld) ?_
      rotate_left
      ·(intro w; (try intro hSw); (try dsimp only at hSw); go_simp; try with_reducible rfl)
      simp only [Act.put, List.setIfInBounds_toArray, List.set_cons_zero, List.set_cons_succ]
      refine takeW 9 45 (v := ?_) rfl rfl (by decide) (by kernel_rfl) (by kernel_rfl) (by kernel_rfl) (fun _ _ _ h => h) (by rfl) ?_ (fun _ => hHeld) ?_
      rotate_left
      ·(intro w; (try intro hSw); (try dsimp only at hSw); go_simp; try with_reducible rfl)
      simp only [Act.put, List.setIfInBounds_toArray, List.set_cons_zero, List.set_cons_succ]
      refine stepS (by kernel_rfl) rfl (by kernel_rfl) (fun K hK => ?_)
      go_simp
      refine hK.out _ _ ?_
      clear hHeld hK K
      refine doneL (by kernel_rfl) ?_ _
      have HI7 : Hid (ScI w b s (w6.setCell ⟨b, 2, none⟩ (.slice a6 (T.length + 1) c6)) kn (T ++ [⟨fk, px, k⟩]) a6 c6) := by
       refine ⟨hr2, by rw [List.length_append, List.length_singleton]; omega, ?_, HF6.out.setFar _ _ (by simp; omega), ?_, grown_trans HG6.out (grown_set _ _ _), HE.out⟩
       ·rw [List.length_append, List.length_singleton]; exact HC6.out.set2 _
       ·rw [List.length_append, List.length_singleton, tokV_app]
        exact own_far HR6.out _ _ (fun e => bne HR6.out b (by omega) e.symm)
      clear hk HC6 HF6 HG6 HR6 HE
      go_wp2
      go_roundw
      case rel => exact ⟨kn, _, a6, c6, HI7.out⟩
      case measure =>
       rw [hmc, show intCell ((w6.setCell ⟨b, 2, none⟩ (.slice a6 (T.length + 1) c6)).cell? ⟨b, 1, none⟩) = kn by rw [HI7.out.sc.pl.c1]; rfl]
       omega
  ·have hke : k = s.size := by omega
   have HE : Hid (S s.data.toList 0 = (T ++ [⟨0, ⟨#[]⟩, (k : Int)⟩], none)) := by
    show _ = _
    rw [HI.out.eq, List.drop_eq_nil_of_le (by omega), Lex.S_nil]
   have hdc : decide (s.size <= k) = true := decide_eq_true (by omega)
   have hTk : T.length <= k := HI.out.tl
   go_wp2_with fail
   refine (HO.out k _ HI.out.sc.pl).mono ?_
   rintro e w5 ⟨rfl, hg1⟩
   rw [hdc]
   have HI5 := HI.out.gr hbl hg1
   have HC5 : Hid (ScAt w5 b s k (.slice ad T.length cap)) := HI5.sc
   have HF5 : Hid (FaAt w5 w.heap.size 0 0) := HI5.fa
   have HO5 : Hid (w5.ownsRow (w.heap.size + 1) 167 3 (.slice ad T.length cap) T.length (tokV T)) := HI5.own
   have HG5 : Hid (w.grownBy w5 (some b)) := HI5.gb
   have bne : ∀ {v : Value} {wx : World} {n : Nat} {xs : List Value}, wx.ownsRow (w.heap.size + 1) 167 3 v n xs -> ∀ i, i <= w.heap.size -> some i ≠ v.ownBlock := fun h i hi e => by have := (h.lt _ e.symm).1; omega
   clear hg1 hdc HI5 HI HT HM HTB HTR HO HH HB
   go_upto_region 11 with fail
   have hk : w5.drew.cell? ⟨b, 2, none⟩ = some (.slice ad T.length cap) /\ w5.drew.cell? ⟨b, 1, none⟩ = some (.int .i64 (k : Int)) := ⟨HC5.out.c2, HC5.out.pl.c1⟩
   refine beginL 15 (fun w' => w'.cell? ⟨b, 2, none⟩ = some (.slice ad T.length cap) /\ w'.cell? ⟨b, 1, none⟩ = some (.int .i64 (k : Int))) (by kernel_rfl) (by first | with_reducible exact hk | with_reducible exact ⟨(Gr.refl _).alloc.keep hk.1, (Gr.refl _).alloc.keep hk.2⟩) (fun hHeld => ?_)
   obtain ⟨W, hW⟩ : ∃ W, W = w5.drew := ⟨_, rfl⟩
   rw [<- hW] at hk ⊢ hHeld
   have gW : Gr w5 W := by rw [hW]; exact (Gr.refl _).drew
   clear hW hke
   refine takeW 0 46 (v := ?_) rfl rfl (by decide) (by kernel_rfl) (by kernel_rfl) (by kernel_rfl) (fun _ _ _ h => h) (by rfl) ?_ (fun _ => hHeld) ?_
   rotate_left
   ·(intro w; (try intro hSw); (try dsimp only at hSw); go_simp; try with_reducible rfl)
   simp only [Act.put, List.setIfInBounds_toArray, List.set_cons_zero, List.set_cons_succ]
   refine takeW 1 47 (v := ?_) rfl rfl (by decide) (by kernel_rfl) (by kernel_rfl) (by kernel_rfl) (fun _ _ _ h => h) (by rfl) ?_ (fun _ => hHeld) ?_
   rotate_left
   ·(intro w; (try intro hSw); (try dsimp only at hSw); go_simp; try with_reducible rfl)
   simp only [Act.put, List.setIfInBounds_toArray, List.set_cons_zero, List.set_cons_succ]
   refine takeW 2 48 (v := ?_) rfl rfl (by decide) (by kernel_rfl) (by kernel_rfl) (by kernel_rfl) (fun _ _ _ h => h) (by rfl) ?_ (fun _ => hHeld) ?_
   rotate_left
   ·(intro w; (try intro hSw); (try dsimp only at hSw); go_simp; try with_reducible rfl)
   simp only [Act.put, List.setIfInBounds_toArray, List.set_cons_zero, List.set_cons_succ]
   refine takeW 3 49 (v := ?_) rfl rfl (by decide) (by kernel_rfl) (by kernel_rfl) (by kernel_rfl) (fun _ _ _ h => h) (by rfl) ?_ (fun _ => hHeld) ?_
   rotate_left
   ·(intro w; (try intro hSw); (try dsimp only at hSw); go_simp; try with_reducible rfl)
   simp only [Act.put, List.setIfInBounds_toArray, List.set_cons_zero, List.set_cons_succ]
   refine takeW 5 51 (v := ?_) rfl rfl (by decide) (by kernel_rfl) (by kernel_rfl) (by kernel_rfl) (fun _ _ _ h => h) (by rfl) ?_ (fun _ => hHeld) ?_
   rotate_left
   ·(intro w; (try intro hSw); (try dsimp only at hSw); go_simp; try with_reducible rfl)
   simp only [Act.put, List.setIfInBounds_toArray, List.set_cons_zero, List.set_cons_succ]
   refine takeW 6 52 (v := ?_) rfl rfl (by decide) (by kernel_rfl) (by kernel_rfl) (by kernel_rfl) (fun _ _ _ h => h) (by rfl) ?_ (fun _ => hHeld) ?_
   rotate_left
   ·(intro w; (try intro hSw); (try dsimp only at hSw); go_simp; try with_reducible rfl)
   simp only [Act.put, List.setIfInBounds_toArray, List.set_cons_zero, List.set_cons_succ]
   refine takeW 7 53 (v := ?_) rfl rfl (by decide) (by kernel_rfl) (by kernel_rfl) (by kernel_rfl) (fun _ _ _ h => h) (by rfl) ?_ (fun _ => hHeld) ?_
   rotate_left
   ·(intro w; (try intro hSw); (try dsimp only at hSw); go_simp; try with_reducible rfl)
   simp only [Act.put, List.setIfInBounds_toArray, List.set_cons_zero, List.set_cons_succ]
   refine takeW 8 54 (v := ?_) rfl rfl (by decide) (by kernel_rfl) (by kernel_rfl) (by kernel_rfl) (fun _ _ _ h => h) (by rfl) ?_ (fun _ => hHeld) ?_
   rotate_left
   ·(intro w; (try intro hSw); (try dsimp only at hSw); go_simp; try with_reducible rfl)
   simp only [Act.put, List.setIfInBounds_toArray, List.set_cons_zero, List.set_cons_succ]
   refine takeS 4 50 (v := ?_) rfl rfl (by decide) (by kernel_rfl) (by kernel_rfl) (by kernel_rfl) (by kernel_rfl) (by kernel_rfl) (fun _ _ _ h => h) (by rfl) ?_ hHeld ?_
   rotate_left
   ·(intro w; (try intro hSw); (try dsimp only at hSw); go_simp; try with_reducible rfl)
   simp only [Act.put, List.setIfInBounds_toArray, List.set_cons_zero, List.set_cons_succ]
   refine takeS 9 55 (v := ?_) rfl rfl (by decide) (by kernel_rfl) (by kernel_rfl) (by kernel_rfl) (by kernel_rfl) (by kernel_rfl) (fun _ _ _ h => h) (by rfl) ?_ hHeld ?_
   rotate_left
   ·(intro w; (try intro hSw); (try dsimp only at hSw); go_simp; try with_reducible rfl)
   simp only [Act.put, List.setIfInBounds_toArray, List.set_cons_zero, List.set_cons_succ]
   refine takeW 10 56 (v := ?_) rfl rfl (by decide) (by kernel_rfl) (by kernel_rfl) (by kernel_rfl) (fun _ _ _ h => h) (by rfl) ?_ (fun _ => hHeld) ?_
   rotate_left
   ·(intro w; (try intro hSw); (try dsimp only at hSw); go_simp; try with_reducible rfl)
   simp only [Act.put, List.setIfInBounds_toArray, List.set_cons_zero, List.set_cons_succ]
   refine stepC 11 (by kernel_rfl) rfl (fun K hK => ?_)
   go_simp
   refine hK.out _ _ (by first | with_reducible exact hk | with_reducible exact ⟨(Gr.refl _).alloc.keep hk.1, (Gr.refl _).alloc.keep hk.2⟩) (fun hHeldN => ?_)
   clear hHeld hK K
   have hHeld := hHeldN
   clear hHeldN
   have HO6 : Hid (World.ownsRow (W.alloc (.cells #[.int .i64 0, .string ⟨#[]⟩, .int .i64 (k : Int)] 167)) (w.heap.size + 1) 167 3 (.slice ad T.length cap) T.length (tokV T)) := HO5.out.kept (grown_gr none gW.alloc) (own_or _)
   have HN6 : Hid (∀ j u, (tokV [⟨0, ⟨#[]⟩, k⟩])[j]? = some u -> (W.alloc (.cells #[.int .i64 0, .string ⟨#[]⟩, .int .i64 (k : Int)] 167)).cell? ((⟨W.heap.size, 0, none⟩ : Addr).add j) = some u) := toks_lit1 W ⟨0, ⟨#[]⟩, k⟩ 167
   have hwz : w.heap.size + 1 <= (W.alloc (.cells #[.int .i64 0, .string ⟨#[]⟩, .int .i64 (k : Int)] 167)).heap.size := by have := HF5.out.lt; have := gW.size; simp; omega
   refine stepC 12 (by kernel_rfl) rfl (fun K hK => ?_)
   (refine step_append_own (by rfl) _ _ 161 (by rfl) (w.heap.size + 1) 167 i0 (.agg #[.int .i64 0, .string ⟨#[]⟩, .int .i64 0]) 3 32 Tryz.underlying161 hi hz0 hz1 hz2 rfl (by decide) _ _ _ (by rfl) HO6.out ⟨W.heap.size, 0, none⟩ 1 1 (tokV [⟨0, ⟨#[]⟩, k⟩]) (by rfl) (by rfl) HN6.out (tokV_one _) (by unfold maxLen; omega) (by omega) hwz ?_; intro v6 w6 ho6 hgr6 hn6; replace hk : w6.cell? ⟨b, 2, none⟩ = some (.slice ad T.length cap) /\ w6.cell? ⟨b, 1, none⟩ = some (.int .i64 (k : Int)) := ⟨hgr6.cell ((Gr.refl W).alloc.keep hk.1) (bne HO6.out b (by omega)), hgr6.cell ((Gr.refl W).alloc.keep hk.2) (bne HO6.out b (by omega))⟩)
   refine hK.out (Act.put _ (some 58) v6) _ (by first | with_reducible exact hk | with_reducible exact ⟨(Gr.refl _).alloc.keep hk.1, (Gr.refl _).alloc.keep hk.2⟩) (fun hHeldN => ?_)
   clear hHeld hK K
   have hHeld := hHeldN
   clear hHeldN
   simp only [Act.put, List.setIfInBounds_toArray, List.set_cons_zero, List.set_cons_succ]
   obtain ⟨a6, c6, rfl, hc6, _⟩ := own_toks (L := T ++ [⟨0, ⟨#[]⟩, k⟩]) (by rw [List.length_append, tokV_app]; exact ho6)
   rw [List.length_append, List.length_singleton] at *
   have gA : Gr w5 (W.alloc (.cells #[.int .i64 0, .string ⟨#[]⟩, .int .i64 (k : Int)] 167)) := gW.alloc
   have HC6 : Hid (ScAt w6 b s k (.slice ad T.length cap)) := (HC5.out.gr gA).grown hgr6 (bne HO6.out b (by omega))
   have HF6 : Hid (FaAt w6 w.heap.size 0 0) := (HF5.out.gr gA).grown hgr6 (bne HO6.out _ (by omega))
   have HG6 : Hid (w.grownBy w6 (some b)) := grown_other (grown_trans HG5.out (grown_gr _ gA)) hgr6 (fun g e => by have := (HO6.out.lt g e).1; omega)
   have HR6 : Hid (w6.ownsRow (w.heap.size + 1) 167 3 (.slice a6 (T.length + 1) c6) (T.length + 1) (tokV T ++ tokV [⟨0, ⟨#[]⟩, k⟩])) := ho6
   obtain ⟨⟨q0, q1, qf1, ql⟩, q2, qf2⟩ := HC6.out
   clear ho6 hgr6 hn6 HO6 HN6 HO5 HC5 HF5 HG5 gA gW hwz
   refine takeW 13 59 (v := ?_) rfl rfl (by decide) (by kernel_rfl) (by kernel_rfl) (by kernel_rfl) (fun _ _ _ h => h) (by rfl) ?_ (fun _ => hHeld) ?_
   rotate_left
   ·(intro w; (try intro hSw); (try dsimp only at hSw); go_simp; try with_reducible rfl)
   simp only [Act.put, List.setIfInBounds_toArray, List.set_cons_zero, List.set_cons_succ]
   refine takeW 14 60 (v := ?_) rfl rfl (by decide) (by kernel_rfl) (by kernel_rfl) (by kernel_rfl) (fun _ _ _ h => h) (by rfl) ?_ (fun _ => hHeld) ?_
   rotate_left
   ·(intro w; (try intro hSw); (try dsimp only at hSw); go_simp; try with_reducible rfl)
   simp only [Act.put, List.setIfInBounds_toArray, List.set_cons_zero, List.set_cons_succ]
   refine stepS (by kernel_rfl) rfl (by kernel_rfl) (fun K hK => ?_)
   go_simp
   refine hK.out _ _ ?_
   clear hHeld hK K
   refine doneL (by kernel_rfl) ?_ _
   have HF7 : Hid (FaAt (w6.setCell ⟨b, 2, none⟩ (.slice a6 (T.length + 1) c6)) w.heap.size 0 0) := HF6.out.setFar _ _ (by simp; omega)
   have HC7 : Hid (ScAt (w6.setCell ⟨b, 2, none⟩ (.slice a6 (T.length + 1) c6)) b s k (.slice a6 (T.length + 1) c6)) := HC6.out.set2 _
   have HR7 : Hid ((w6.setCell ⟨b, 2, none⟩ (.slice a6 (T.length + 1) c6)).ownsRow (w.heap.size + 1) 167 3 (.slice a6 (T.length + 1) c6) (T.length + 1) (tokV T ++ tokV [⟨0, ⟨#[]⟩, k⟩])) := own_far HR6.out _ _ (fun e => bne HR6.out b (by omega) e.symm)
   have HG7 : Hid (w.grownBy (w6.setCell ⟨b, 2, none⟩ (.slice a6 (T.length + 1) c6)) (some b)) := grown_trans HG6.out (grown_set _ _ _)
   obtain ⟨W7, hW7⟩ : ∃ x, x = w6.setCell ⟨b, 2, none⟩ (.slice a6 (T.length + 1) c6) := ⟨_, rfl⟩
   rw [<- hW7] at HF7 HC7 HR7 HG7 ⊢
   obtain ⟨r0, r1, f0, f1, rl⟩ := HF7.out
   clear hk HC6 HF6 HG6 HR6 hW7 q0 q1 qf1 ql q2 qf2
   go_wp2
   try rw [Exit.noGoto_ret]
   refine bodyPost_ret (v := .agg #[.int .i64 0, .int .i64 0]) (by simp [results, Tryz.results132, go_sem, *]) rfl ⟨0, 0, rfl, grown_other (grown_other HG7.out (grown_set _ _ _) (by simp)) (grown_set _ _ _) (by simp), Or.inl ⟨by rw [HE.out], rfl, rfl, a6, c6, ?_, ?_, ?_, ?_⟩⟩
   ·obtain rfl : k = s.size := by omega
    rw [HE.out]
    simp only [List.length_append, List.length_singleton]
    exact (HC7.out.setFar _ _ (by simp; omega)).setFar _ _ (by simp; omega)
   ·rw [HE.out]; simpa using hc6
   ·rw [HE.out]
    obtain ⟨a7, c7, h7, _, h8, h9⟩ := own_toks (L := T ++ [⟨0, ⟨#[]⟩, k⟩]) (by rw [List.length_append, tokV_app]; exact HR7.out)
    rw [List.length_append, List.length_singleton] at h7
    cases h7
    exact (h8.setFar _ _ (fun a e => by have := h9 a e; simp; omega)).setFar _ _ (fun a e => by have := h9 a e; simp; omega)
   ·intro a e
    obtain ⟨a7, c7, h7, _, h8, h9⟩ := own_toks (L := T ++ [⟨0, ⟨#[]⟩, k⟩]) (by rw [List.length_append, tokV_app]; exact HR7.out)
    rw [List.length_append, List.length_singleton] at h7
    cases h7
    have := h9 a e; omega
end Go.Proofs.YthaadiclopoamaaGreatDoor
