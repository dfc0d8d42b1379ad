/- What the proof is made of, part 3. -/
import Derived.Test.YtfobfpigbfepoaaGreatDoorTLBTexts2
import Derived.BigQuiet
namespace Go.Proofs.YtfobfpigbfepoaaGreatDoor
open Go.RowKit
open Lex (Tok)
def tokC (x : Tok) : List Value := [.int .i64 x.k, .string x.t, .int .i64 x.p]
def tokV (L : List Tok) : List Value := L.flatMap tokC
theorem tokV_app (L M : List Tok) : tokV (L ++ M) = tokV L ++ tokV M := by simp [tokV]
theorem tokV_get (L : List Tok) : ∀ j (h : j < L.length), (tokV L)[j * 3]? = some (.int .i64 L[j].k) ∧ (tokV L)[j * 3 + 1]? = some (.string L[j].t) ∧ (tokV L)[j * 3 + 2]? = some (.int .i64 L[j].p) := by
  induction L with
  | nil => intro j h; simp at h
  | cons x t ih =>
    intro j h
    have e : tokV (x :: t) = .int .i64 x.k :: .string x.t :: .int .i64 x.p :: tokV t := rfl
    rw [e]
    cases j with
    | zero => exact ⟨rfl, rfl, rfl⟩
    | succ j =>
      obtain ⟨h1, h2, h3⟩ := ih j (by simpa using h)
      rw [show (j + 1) * 3 = j * 3 + 1 + 1 + 1 by omega]
      refine ⟨by simpa using h1, ?_, ?_⟩
      · rw [show j * 3 + 1 + 1 + 1 + 1 = (j * 3 + 1) + 1 + 1 + 1 by omega]; simpa using h2
      · rw [show j * 3 + 1 + 1 + 1 + 2 = (j * 3 + 2) + 1 + 1 + 1 by omega]; simpa using h3
theorem tokV_one (L : List Tok) : ∀ u ∈ tokV L, u.oneCell' = true := by
  intro u hu
  simp only [tokV, List.mem_flatMap] at hu
  obtain ⟨h, _, hu⟩ := hu
  simp [tokC] at hu
  rcases hu with rfl | rfl | rfl <;> rfl
def ToksAt (w : World) (ad : Option Addr) (L : List Tok) : Prop :=
  ∀ j (h : j < L.length), ∃ b off, ad = some ⟨b, off, none⟩ ∧ b < w.heap.size ∧ w.cell? ⟨b, off + j * 3, none⟩ = some (.int .i64 L[j].k) ∧ w.cell? ⟨b, off + j * 3 + 1, none⟩ = some (.string L[j].t) ∧ w.cell? ⟨b, off + j * 3 + 2, none⟩ = some (.int .i64 L[j].p)
theorem ToksAt.gr {w w' : World} {ad : Option Addr} {L : List Tok} (h : ToksAt w ad L) (g : Gr w w') : ToksAt w' ad L := by
  intro j hj
  obtain ⟨b, off, e, hb, h1, h2, h3⟩ := h j hj
  exact ⟨b, off, e, Nat.lt_of_lt_of_le hb g.size, g.keep h1, g.keep h2, g.keep h3⟩
theorem ToksAt.nil {w : World} {ad : Option Addr} : ToksAt w ad [] := fun j h => absurd h (by simp)
theorem ToksAt.take {w : World} {ad : Option Addr} {L : List Tok} (h : ToksAt w ad L) (k : Nat) : ToksAt w ad (L.take k) := by
  intro j hj
  have hj' : j < L.length := by rw [List.length_take] at hj; omega
  obtain ⟨b, off, e, hb, h1, h2, h3⟩ := h j hj'
  refine ⟨b, off, e, hb, ?_, ?_, ?_⟩ <;> rw [List.getElem_take] <;> assumption
theorem ToksAt.setFar {w : World} {ad : Option Addr} {L : List Tok} (h : ToksAt w ad L) (p : Addr) (v : Value) (hp : ∀ a, ad = some a → p.block ≠ a.block) : ToksAt (w.setCell p v) ad L := by
  intro j hj
  obtain ⟨b, off, e, hb, h1, h2, h3⟩ := h j hj
  have hne : p.block ≠ b := hp _ e
  refine ⟨b, off, e, by simpa using hb, ?_, ?_, ?_⟩ <;> rw [World.cell?_setCell_far _ _ _ _ (by simpa using hne)] <;> assumption
theorem own_toks {base : Nat} {v : Value} {L : List Tok} {w : World} (h : w.ownsRow base 65 3 v L.length (tokV L)) : ∃ ad cap, v = .slice ad L.length cap ∧ L.length ≤ cap ∧ ToksAt w ad L ∧ ∀ a, ad = some a → base ≤ a.block := by
  have hcell := fun g (hg : v.ownBlock = some g) => h.cells hg
  have hlt := h.lt
  obtain ⟨_, ⟨rfl, h0⟩ | ⟨g, cap, cur, rfl, hx⟩⟩ := h
  · have : L = [] := List.length_eq_zero_iff.1 h0
    subst this
    exact ⟨none, 0, rfl, by simp, ToksAt.nil, fun a e => by cases e⟩
  · refine ⟨some ⟨g, 0, none⟩, cap, rfl, hx.2.2.1, ?_, fun a e => by cases e; exact (hlt g rfl).1⟩
    intro j hj
    obtain ⟨g1, g2, g3⟩ := tokV_get L j hj
    have c1 := hcell g rfl _ _ g1
    have c2 := hcell g rfl _ _ g2
    have c3 := hcell g rfl _ _ g3
    rw [Addr.add_lit] at c1 c2 c3
    rw [← Nat.add_assoc] at c2 c3
    exact ⟨g, 0, rfl, (hlt g rfl).2, c1, c2, c3⟩
theorem toks_lit1 (w : World) (x : Tok) (t : TypeId) : ∀ j u, (tokV [x])[j]? = some u → (w.alloc (.cells #[.int .i64 x.k, .string x.t, .int .i64 x.p] t)).cell? ((⟨w.heap.size, 0, none⟩ : Addr).add j) = some u := by
  intro j u hu
  have hj : j < 3 := by
    have := (List.getElem?_eq_some_iff.1 hu).1
    simpa [tokV, tokC] using this
  rw [Addr.add_lit]
  match j, hj with
  | 0, _ => simp [tokV, tokC] at hu; subst hu; simp
  | 1, _ => simp [tokV, tokC] at hu; subst hu; simp
  | 2, _ => simp [tokV, tokC] at hu; subst hu; simp
theorem infoTok : (Tryz.prog.info? 65).map (fun i => (i.zero, i.size, i.bytes)) = some (some (.agg #[.int .i64 0, .string ⟨#[]⟩, .int .i64 0]), 3, 32) := by kernel_rfl
theorem info_parts3 {t : TypeId} {z : Value} {n b : Nat} (h : (Tryz.prog.info? t).map (fun i => (i.zero, i.size, i.bytes)) = some (some z, n, b)) : ∃ i, Tryz.prog.info? t = some i ∧ i.zero = some z ∧ i.size = n ∧ i.bytes = b := by
  cases hi : Tryz.prog.info? t with
  | none => rw [hi] at h; cases h
  | some i => rw [hi] at h; simp at h; exact ⟨i, rfl, h.1, h.2.1, h.2.2⟩
structure PlAt (w : World) (b : Nat) (s : ByteArray) (k : Nat) : Prop where
  c0 : w.cell? ⟨b, 0, none⟩ = some (.string s)
  c1 : w.cell? ⟨b, 1, none⟩ = some (.int .i64 (k : Int))
  f1 : w.frozen? ⟨b, 1, none⟩ = false
  lt : b < w.heap.size
theorem PlAt.gr {w w' : World} {b : Nat} {s : ByteArray} {k : Nat} (h : PlAt w b s k) (g : Gr w w') : PlAt w' b s k :=
  ⟨g.keep h.c0, g.keep h.c1, g.keepF h.lt h.f1, Nat.lt_of_lt_of_le h.lt g.size⟩
theorem PlAt.set {w : World} {b : Nat} {s : ByteArray} {k : Nat} (h : PlAt w b s k) (m : Nat) : PlAt (w.setCell ⟨b, 1, none⟩ (.int .i64 (m : Int))) b s m := by
  obtain ⟨h0, h1, h2, hl⟩ := h
  exact ⟨by simp [go_sem, *], by simp [go_sem, *], by simp [go_sem, *], by simpa using hl⟩
structure PO (b : Nat) (w w' : World) : Prop where
  grown : w.grownBy w' (some b)
  cell : ∀ o, o ≠ 1 → b < w.heap.size → w'.cell? ⟨b, o, none⟩ = w.cell? ⟨b, o, none⟩
  froz : ∀ o, b < w.heap.size → w'.frozen? ⟨b, o, none⟩ = w.frozen? ⟨b, o, none⟩
theorem PO.ofGr {b : Nat} {w w' : World} (g : Gr w w') : PO b w w' :=
  ⟨⟨g.below.os, g.below.tape, g.below.output, g.size, fun k hk _ => g.below.block k hk⟩, fun o _ hb => g.below.cell (p := ⟨b, o, none⟩) hb, fun o hb => g.below.frozen (p := ⟨b, o, none⟩) hb⟩
theorem PO.size {b : Nat} {w w' : World} (h : PO b w w') : w.heap.size ≤ w'.heap.size := h.grown.size
theorem PO.trans {b : Nat} {u v w : World} (h : PO b u v) (k : PO b v w) : PO b u w := by
  have hs := h.size
  refine ⟨⟨?_, ?_, ?_, Nat.le_trans h.size k.size, ?_⟩, fun o ho hb => (k.cell o ho (by omega)).trans (h.cell o ho hb), fun o hb => (k.froz o (by omega)).trans (h.froz o hb)⟩
  · exact k.grown.os.trans h.grown.os
  · exact k.grown.tape.trans h.grown.tape
  · exact k.grown.output.trans h.grown.output
  · intro i hi hne
    exact (k.grown.block i (by omega) hne).trans (h.grown.block i hi hne)
theorem PO.set {b : Nat} (w : World) (v : Value) : PO b w (w.setCell ⟨b, 1, none⟩ v) :=
  ⟨⟨rfl, rfl, rfl, by simp [World.setCell], fun k _ hk => Below.heap_setCell _ _ _ _ (fun e => hk (by rw [e]))⟩, fun o ho _ => by rw [World.cell?_setCell_other]; intro e; exact ho (by cases e; rfl), fun o _ => by rw [World.frozen?_setCell]⟩
theorem Gr.po {b : Nat} {a w w' : World} (g : Gr a w) (h : PO b w w') (hb : a.heap.size ≤ b) : Gr a w' := ⟨g.below.grown h.grown g.size (fun k e => by cases e; exact hb)⟩
theorem PO.keep {b : Nat} {w w' : World} (h : PO b w w') {g o : Nat} {v : Value} (hg : g < w.heap.size) (hne : g ≠ b) (hc : w.cell? ⟨g, o, none⟩ = some v) : w'.cell? ⟨g, o, none⟩ = some v := by
  rw [← hc]; exact World.cell?_of_block (w := w) (h.grown.block g hg (by simp; omega))
theorem PO.keepF {b : Nat} {w w' : World} (h : PO b w w') {g o : Nat} {v : Bool} (hg : g < w.heap.size) (hne : g ≠ b) (hc : w.frozen? ⟨g, o, none⟩ = v) : w'.frozen? ⟨g, o, none⟩ = v := by
  rw [← hc]; exact World.frozen?_of_block (w := w) (h.grown.block g hg (by simp; omega))
end Go.Proofs.YtfobfpigbfepoaaGreatDoor
namespace Go.Proofs.YtfobfpigbfepoaaGreatDoor
open Go.RowKit
open _root_.Go.Proofs.YtfobfpigbfepoaaGreatDoor.Act (letB digB sgnB)
open Lex (blkB remB run)
theorem Gr.drewN {a b : World} (h : Gr a b) (n : Nat) : Gr a (b.drewN n) := by
  induction n with
  | zero => exact h
  | succ n ih => exact ih.drew
theorem letter_any (b : UInt8) (w : World) : Calls Tryz.prog 91 #[.int .u8 (b.toNat : Int)] w fun e w' => e = .returned (.bool (letB b)) ∧ w' = w := by
  unfold Act.letB
  by_cases h0 : (97 : Int) ≤ (b.toNat : Int)
  · by_cases h1 : (b.toNat : Int) ≤ 122
    · rw [decide_eq_true h0, decide_eq_true h1]
      go_enter Tryz.func91, Tryz.ntmps91
      go_wp2
      go_ret
      exact ⟨rfl, rfl⟩
    · rw [decide_eq_true h0, decide_eq_false h1]
      go_enter Tryz.func91, Tryz.ntmps91
      go_wp2
      go_ret
      exact ⟨rfl, rfl⟩
  · rw [decide_eq_false h0]
    go_enter Tryz.func91, Tryz.ntmps91
    go_wp2
    go_ret
    exact ⟨rfl, rfl⟩
theorem digit_any (b : UInt8) (w : World) : Calls Tryz.prog 93 #[.int .u8 (b.toNat : Int)] w fun e w' => e = .returned (.bool (digB b)) ∧ w' = w := by
  unfold Act.digB
  by_cases h0 : (48 : Int) ≤ (b.toNat : Int)
  · by_cases h1 : (b.toNat : Int) ≤ 57
    · rw [decide_eq_true h0, decide_eq_true h1]
      go_enter Tryz.func93, Tryz.ntmps93
      go_wp2
      go_ret
      exact ⟨rfl, rfl⟩
    · rw [decide_eq_true h0, decide_eq_false h1]
      go_enter Tryz.func93, Tryz.ntmps93
      go_wp2
      go_ret
      exact ⟨rfl, rfl⟩
  · rw [decide_eq_false h0]
    go_enter Tryz.func93, Tryz.ntmps93
    go_wp2
    go_ret
    exact ⟨rfl, rfl⟩
theorem blank_any (b : UInt8) (w : World) : Calls Tryz.prog 67 #[.int .u8 (b.toNat : Int)] w fun e w' => e = .returned (.bool (blkB b)) ∧ w' = w := by
  unfold Lex.blkB
  by_cases h0 : (b.toNat : Int) = 32
  · rw [decide_eq_true h0]
    have e0 : ((b.toNat : Int) == 32) = true := by simpa using h0
    clear h0
    go_enter Tryz.func67, Tryz.ntmps67
    go_wp2
    go_ret
    exact ⟨rfl, rfl⟩
  · rw [decide_eq_false h0]
    have e0 : ((b.toNat : Int) == 32) = false := by simpa using h0
    by_cases h1 : (b.toNat : Int) = 9
    · rw [decide_eq_true h1]
      have e1 : ((b.toNat : Int) == 9) = true := by simpa using h1
      clear h0 h1
      go_enter Tryz.func67, Tryz.ntmps67
      go_wp2
      go_ret
      exact ⟨rfl, rfl⟩
    · rw [decide_eq_false h1]
      have e1 : ((b.toNat : Int) == 9) = false := by simpa using h1
      have e2 : ((b.toNat : Int) == 10) = decide ((b.toNat : Int) = 10) := by rfl
      clear h0 h1
      generalize decide ((b.toNat : Int) = 10) = c at e2 ⊢
      go_enter Tryz.func67, Tryz.ntmps67
      go_wp2
      go_ret
      exact ⟨by simp, rfl⟩
theorem remark_any (b : UInt8) (w : World) : Calls Tryz.prog 69 #[.int .u8 (b.toNat : Int)] w fun e w' => e = .returned (.bool (remB b)) ∧ w' = w := by
  unfold Lex.remB
  by_cases h0 : (b.toNat : Int) = 10
  · rw [decide_eq_true h0]
    have e0 : ((b.toNat : Int) != 10) = false := by simpa using h0
    clear h0
    go_enter Tryz.func69, Tryz.ntmps69
    go_wp2
    go_ret
    exact ⟨rfl, rfl⟩
  · rw [decide_eq_false h0]
    have e0 : ((b.toNat : Int) != 10) = true := by simpa using h0
    clear h0
    go_enter Tryz.func69, Tryz.ntmps69
    go_wp2
    go_ret
    exact ⟨rfl, rfl⟩
theorem inWord_any (b : UInt8) (w : World) : Calls Tryz.prog 92 #[.int .u8 (b.toNat : Int)] w fun e w' => e = .returned (.bool (sgnB b)) ∧ w' = w := by
  have HL : Hid (∀ w : World, Calls Tryz.prog 91 #[.int .u8 (b.toNat : Int)] w fun e w' => e = .returned (.bool (letB b)) ∧ w' = w) := letter_any b
  have HD : Hid (∀ w : World, Calls Tryz.prog 93 #[.int .u8 (b.toNat : Int)] w fun e w' => e = .returned (.bool (digB b)) ∧ w' = w) := digit_any b
  unfold Act.sgnB
  cases h : letB b with
  | true =>
    rw [h] at HL
    go_enter Tryz.func92, Tryz.ntmps92
    go_wp2_with fail
    refine (HL.out _).mono ?_
    rintro e w1 ⟨rfl, hw1⟩; obtain rfl := hw1.symm
    go_wp2
    go_ret
    exact ⟨rfl, rfl⟩
  | false =>
    rw [h] at HL
    go_enter Tryz.func92, Tryz.ntmps92
    go_wp2_with fail
    refine (HL.out _).mono ?_
    rintro e w1 ⟨rfl, hw1⟩; obtain rfl := hw1.symm
    go_wp2_with fail
    refine (HD.out _).mono ?_
    rintro e w1 ⟨rfl, hw1⟩; obtain rfl := hw1.symm
    go_wp2
    go_ret
    exact ⟨rfl, rfl⟩
set_option maxHeartbeats 1000000 in
theorem over_any (b : Nat) (s : ByteArray) (k : Nat) (w : World) (h : PlAt w b s k) : Calls Tryz.prog 65 #[.pointer (some ⟨b, 0, none⟩)] w fun e w' => e = .returned (.bool (decide (s.size ≤ k))) ∧ Gr w w' := by
  obtain ⟨h0, h1, _, hl⟩ := h
  go_enter Tryz.func65, Tryz.ntmps65
  go_wp2
  go_quiet (fail)
  go_wp2
  go_ret
  exact ⟨rfl, (Gr.refl _).drewN _⟩
set_option maxHeartbeats 1000000 in
theorem here_any (b : Nat) (s : ByteArray) (k : Nat) (w : World) (h : PlAt w b s k) (hk : k < s.size) : Calls Tryz.prog 66 #[.pointer (some ⟨b, 0, none⟩)] w fun e w' => e = .returned (.int .u8 ((s[k]'hk).toNat : Int)) ∧ Gr w w' := by
  obtain ⟨h0, h1, _, hl⟩ := h
  go_enter Tryz.func66, Tryz.ntmps66
  go_wp2
  go_quiet (fail)
  go_wp2
  go_ret
  exact ⟨rfl, (Gr.refl _).drewN _⟩
set_option maxHeartbeats 1000000 in
theorem take_any (b : Nat) (s : ByteArray) (k : Nat) (w : World) (h : PlAt w b s k) (hk : k < s.size) (hs : s.size ≤ 9223372036854775807) : Calls Tryz.prog 94 #[.pointer (some ⟨b, 0, none⟩)] w fun e w' => e = .returned (.string (s.extract k (k + 1))) ∧ PlAt w' b s (k + 1) ∧ PO b w w' := by
  have HP : Hid (PlAt w b s k) := h
  obtain ⟨h0, h1, f1, hl⟩ := h
  have e1 : IntKind.i64.wrap ((k : Int) + 1) = ((k + 1 : Nat) : Int) := by rw [IntKind.wrap_i64]; omega
  have e2 : wrap64 ((k : Int) + 1) = ((k + 1 : Nat) : Int) := by unfold wrap64; omega
  have e3 : wrap64 (((k + 1 : Nat) : Int) - 1) = (k : Int) := by unfold wrap64; omega
  have e4 : IntKind.i64.wrap (((k + 1 : Nat) : Int) - 1) = (k : Int) := by rw [IntKind.wrap_i64]; omega
  have i1 : ((k + 1 : Nat) : Int) ≤ (s.size : Int) := by omega
  have i2 : (k : Int) ≤ ((k + 1 : Nat) : Int) := by omega
  obtain ⟨m, hm⟩ : ∃ m, m = k + 1 := ⟨_, rfl⟩
  rw [← hm] at e1 e2 e3 e4 i1 i2 ⊢
  have hx : m ≤ s.size := by omega
  have h2 : k ≤ m := by omega
  clear hm hk
  go_enter Tryz.func94, Tryz.ntmps94
  go_wp2
  go_quiet (fail)
  go_wp2
  go_ret
  exact ⟨rfl, (HP.out.set m).gr ((Gr.refl _).drewN _), (PO.set w _).trans (PO.ofGr ((Gr.refl _).drewN _))⟩
def intCell : Option Value → Nat
  | some (.int _ n) => n.toNat
  | _ => 0
theorem run_all (p : UInt8 → Bool) (s : ByteArray) : s.data.toList.all p = decide (s.size ≤ run p s.data.toList) := by
  have hl : s.data.toList.length = s.size := by simp
  rw [← hl]
  generalize s.data.toList = l
  induction l with
  | nil => rfl
  | cons b t ih =>
    cases h : p b with
    | false => rw [Lex.run_no t h, List.all_cons, h]; simp
    | true => rw [Lex.run_yes t h, List.all_cons, h, ih]; simp
set_option maxHeartbeats 4000000 in
set_option maxRecDepth 100000 in
theorem takeAllBlk (b : Nat) (s : ByteArray) (k : Nat) (w : World) (h : PlAt w b s k) (hk : k ≤ s.size) (hs : s.size ≤ 9223372036854775807) :
    Calls Tryz.prog 68 #[.pointer (some ⟨b, 0, none⟩), .func (.func 67) #[] #[]] w fun e w' => e = .returned (.string (s.extract k (k + run blkB (s.data.toList.drop k)))) ∧ PlAt w' b s (k + run blkB (s.data.toList.drop k)) ∧ PO b w w' := by
  have HO : Hid (∀ (m : Nat) (w' : World), PlAt w' b s m → Calls Tryz.prog 65 #[.pointer (some ⟨b, 0, none⟩)] w' fun e w2 => e = .returned (.bool (decide (s.size ≤ m))) ∧ Gr w' w2) := fun m w' g => over_any b s m w' g
  have HH : Hid (∀ (m : Nat) (hm : m < s.size) (w' : World), PlAt w' b s m → Calls Tryz.prog 66 #[.pointer (some ⟨b, 0, none⟩)] w' fun e w2 => e = .returned (.int .u8 ((s[m]'hm).toNat : Int)) ∧ Gr w' w2) := fun m hm w' g => here_any b s m w' g hm
  have HK : Hid (∀ (c : UInt8) (w : World), Calls Tryz.prog 67 #[.int .u8 (c.toNat : Int)] w fun e w' => e = .returned (.bool (blkB c)) ∧ w' = w) := blank_any
  have HP : Hid (PlAt w b s k) := h
  have HR : Hid (∀ m, k ≤ m → m ≤ s.size → (∀ j (hj : j < s.size), k ≤ j → j < m → blkB (s[j]'hj) = true) → (∀ hm : m < s.size, blkB (s[m]'hm) = false) → k + run blkB (s.data.toList.drop k) = m) := by
    intro m hkm hms ha he
    have hl : s.data.toList.length = s.size := by simp
    have := Lex.run_eq blkB (s.data.toList.drop k) (m - k) (by rw [List.length_drop, hl]; omega)
      (fun j hj hlt => by rw [List.getElem_drop]; exact ha (k + j) (by rw [List.length_drop, hl] at hj; omega) (by omega) (by omega))
      (fun hlt => by
        rw [List.length_drop, hl] at hlt
        rw [List.getElem_drop]
        have e : k + (m - k) = m := by omega
        simp only [e]
        exact he (by omega))
    omega
  obtain ⟨h0, h1, f1, hl⟩ := h
  go_enter Tryz.func68, Tryz.ntmps68
  go_wp2
  go_loopw [] (fun wr => ∃ m : Nat, k ≤ m ∧ m ≤ s.size ∧ PlAt wr b s m ∧ PO b w wr ∧ (∀ j (hj : j < s.size), k ≤ j → j < m → blkB (s[j]'hj) = true)) (fun wr => s.size - intCell (wr.cell? ⟨b, 1, none⟩))
  case atStart => exact ⟨k, Nat.le_refl _, hk, HP.out, PO.ofGr (Gr.refl _), fun j _ h1 h2 => absurd h2 (by omega)⟩
  case round =>
    obtain ⟨m, hkm, hms, hpl, hpo, hall⟩ := hrel
    have HA : Hid (∀ j (hj : j < s.size), k ≤ j → j < m → blkB (s[j]'hj) = true) := hall
    have HM : Hid (PlAt wr b s m) := hpl
    have HG : Hid (PO b w wr) := hpo
    have hmc : intCell (wr.cell? ⟨b, 1, none⟩) = m := by rw [hpl.c1]; rfl
    clear hall hpl hpo
    by_cases hlt : m < s.size
    · have hdc : decide (s.size ≤ m) = false := decide_eq_false (by omega)
      go_wp2_with fail
      refine (HO.out m _ HM.out).mono ?_
      rintro e w1 ⟨rfl, hg1⟩
      rw [hdc]
      have HM1 := HM.out.gr hg1
      have HM1 : Hid (PlAt w1 b s m) := HM.out.gr hg1
      have HG1 : Hid (PO b w w1) := HG.out.trans (PO.ofGr hg1)
      go_wp2_with fail
      refine (HH.out m hlt _ HM1.out).mono ?_
      rintro e w2 ⟨rfl, hg2⟩
      have HM2 : Hid (PlAt w2 b s m) := HM1.out.gr hg2
      have HG2 : Hid (PO b w w2) := HG1.out.trans (PO.ofGr hg2)
      go_wp2_with fail
      refine (HK.out (s[m]'hlt) _).mono ?_
      rintro e w3 ⟨rfl, hw3⟩
      obtain rfl := hw3.symm
      cases hp : blkB (s[m]'hlt) with
      | true =>
        have HS : Hid (blkB (s[m]'hlt) = true) := hp
        obtain ⟨c0, c1, g1, cl⟩ := HM2.out
        have e2 : wrap64 ((m : Int) + 1) = ((m + 1 : Nat) : Int) := by unfold wrap64; omega
        clear hp
        go_wp2
        go_roundw
        case rel =>
          refine ⟨m + 1, by omega, by omega, ?_, ?_, fun j hj h1 h2 => if e : j = m then by subst e; exact HS.out else HA.out j hj h1 (by omega)⟩
          · exact HM2.out.set (m + 1)
          · exact HG2.out.trans (PO.set _ _)
        case measure =>
          have e9 : intCell ((w2.setCell ⟨b, 1, none⟩ (.int .i64 ((m : Int) + 1))).cell? ⟨b, 1, none⟩) = m + 1 := by
            have := (HM2.out.set (m + 1)).c1
            rw [show ((m : Int) + 1) = ((m + 1 : Nat) : Int) by omega, this]; rfl
          rw [hmc, e9]
          omega
      | false =>
        have HE : Hid (k + run blkB (s.data.toList.drop k) = m) := HR.out m hkm hms HA.out (fun _ => hp)
        obtain ⟨c0, c1, g1, cl⟩ := HM2.out
        have i1 : (m : Int) ≤ (s.size : Int) := by omega
        have i2 : (k : Int) ≤ (m : Int) := by omega
        clear hp
        go_wp2
        go_quiet (fail)
        go_wp2
        go_ret
        rw [HE.out]
        exact ⟨rfl, HM2.out.gr ((Gr.refl _).drewN _), HG2.out.trans (PO.ofGr ((Gr.refl _).drewN _))⟩
    · have hdc : decide (s.size ≤ m) = true := decide_eq_true (by omega)
      have HE : Hid (k + run blkB (s.data.toList.drop k) = m) := HR.out m hkm hms HA.out (fun h => absurd h hlt)
      go_wp2_with fail
      refine (HO.out m _ HM.out).mono ?_
      rintro e w1 ⟨rfl, hg1⟩
      rw [hdc]
      have HM1 : Hid (PlAt w1 b s m) := HM.out.gr hg1
      have HG1 : Hid (PO b w w1) := HG.out.trans (PO.ofGr hg1)
      obtain ⟨c0, c1, g1, cl⟩ := HM1.out
      have i1 : (m : Int) ≤ (s.size : Int) := by omega
      have i2 : (k : Int) ≤ (m : Int) := by omega
      go_wp2
      go_quiet (fail)
      go_wp2
      go_ret
      rw [HE.out]
      exact ⟨rfl, HM1.out.gr ((Gr.refl _).drewN _), HG1.out.trans (PO.ofGr ((Gr.refl _).drewN _))⟩
set_option maxHeartbeats 4000000 in
set_option maxRecDepth 100000 in
theorem takeAllRem (b : Nat) (s : ByteArray) (k : Nat) (w : World) (h : PlAt w b s k) (hk : k ≤ s.size) (hs : s.size ≤ 9223372036854775807) :
    Calls Tryz.prog 68 #[.pointer (some ⟨b, 0, none⟩), .func (.func 69) #[] #[]] w fun e w' => e = .returned (.string (s.extract k (k + run remB (s.data.toList.drop k)))) ∧ PlAt w' b s (k + run remB (s.data.toList.drop k)) ∧ PO b w w' := by
  have HO : Hid (∀ (m : Nat) (w' : World), PlAt w' b s m → Calls Tryz.prog 65 #[.pointer (some ⟨b, 0, none⟩)] w' fun e w2 => e = .returned (.bool (decide (s.size ≤ m))) ∧ Gr w' w2) := fun m w' g => over_any b s m w' g
  have HH : Hid (∀ (m : Nat) (hm : m < s.size) (w' : World), PlAt w' b s m → Calls Tryz.prog 66 #[.pointer (some ⟨b, 0, none⟩)] w' fun e w2 => e = .returned (.int .u8 ((s[m]'hm).toNat : Int)) ∧ Gr w' w2) := fun m hm w' g => here_any b s m w' g hm
  have HK : Hid (∀ (c : UInt8) (w : World), Calls Tryz.prog 69 #[.int .u8 (c.toNat : Int)] w fun e w' => e = .returned (.bool (remB c)) ∧ w' = w) := remark_any
  have HP : Hid (PlAt w b s k) := h
  have HR : Hid (∀ m, k ≤ m → m ≤ s.size → (∀ j (hj : j < s.size), k ≤ j → j < m → remB (s[j]'hj) = true) → (∀ hm : m < s.size, remB (s[m]'hm) = false) → k + run remB (s.data.toList.drop k) = m) := by
    intro m hkm hms ha he
    have hl : s.data.toList.length = s.size := by simp
    have := Lex.run_eq remB (s.data.toList.drop k) (m - k) (by rw [List.length_drop, hl]; omega)
      (fun j hj hlt => by rw [List.getElem_drop]; exact ha (k + j) (by rw [List.length_drop, hl] at hj; omega) (by omega) (by omega))
      (fun hlt => by
        rw [List.length_drop, hl] at hlt
        rw [List.getElem_drop]
        have e : k + (m - k) = m := by omega
        simp only [e]
        exact he (by omega))
    omega
  obtain ⟨h0, h1, f1, hl⟩ := h
  go_enter Tryz.func68, Tryz.ntmps68
  go_wp2
  go_loopw [] (fun wr => ∃ m : Nat, k ≤ m ∧ m ≤ s.size ∧ PlAt wr b s m ∧ PO b w wr ∧ (∀ j (hj : j < s.size), k ≤ j → j < m → remB (s[j]'hj) = true)) (fun wr => s.size - intCell (wr.cell? ⟨b, 1, none⟩))
  case atStart => exact ⟨k, Nat.le_refl _, hk, HP.out, PO.ofGr (Gr.refl _), fun j _ h1 h2 => absurd h2 (by omega)⟩
  case round =>
    obtain ⟨m, hkm, hms, hpl, hpo, hall⟩ := hrel
    have HA : Hid (∀ j (hj : j < s.size), k ≤ j → j < m → remB (s[j]'hj) = true) := hall
    have HM : Hid (PlAt wr b s m) := hpl
    have HG : Hid (PO b w wr) := hpo
    have hmc : intCell (wr.cell? ⟨b, 1, none⟩) = m := by rw [hpl.c1]; rfl
    clear hall hpl hpo
    by_cases hlt : m < s.size
    · have hdc : decide (s.size ≤ m) = false := decide_eq_false (by omega)
      go_wp2_with fail
      refine (HO.out m _ HM.out).mono ?_
      rintro e w1 ⟨rfl, hg1⟩
      rw [hdc]
      have HM1 := HM.out.gr hg1
      have HM1 : Hid (PlAt w1 b s m) := HM.out.gr hg1
      have HG1 : Hid (PO b w w1) := HG.out.trans (PO.ofGr hg1)
      go_wp2_with fail
      refine (HH.out m hlt _ HM1.out).mono ?_
      rintro e w2 ⟨rfl, hg2⟩
      have HM2 : Hid (PlAt w2 b s m) := HM1.out.gr hg2
      have HG2 : Hid (PO b w w2) := HG1.out.trans (PO.ofGr hg2)
      go_wp2_with fail
      refine (HK.out (s[m]'hlt) _).mono ?_
      rintro e w3 ⟨rfl, hw3⟩
      obtain rfl := hw3.symm
      cases hp : remB (s[m]'hlt) with
      | true =>
        have HS : Hid (remB (s[m]'hlt) = true) := hp
        obtain ⟨c0, c1, g1, cl⟩ := HM2.out
        have e2 : wrap64 ((m : Int) + 1) = ((m + 1 : Nat) : Int) := by unfold wrap64; omega
        clear hp
        go_wp2
        go_roundw
        case rel =>
          refine ⟨m + 1, by omega, by omega, ?_, ?_, fun j hj h1 h2 => if e : j = m then by subst e; exact HS.out else HA.out j hj h1 (by omega)⟩
          · exact HM2.out.set (m + 1)
          · exact HG2.out.trans (PO.set _ _)
        case measure =>
          have e9 : intCell ((w2.setCell ⟨b, 1, none⟩ (.int .i64 ((m : Int) + 1))).cell? ⟨b, 1, none⟩) = m + 1 := by
            have := (HM2.out.set (m + 1)).c1
            rw [show ((m : Int) + 1) = ((m + 1 : Nat) : Int) by omega, this]; rfl
          rw [hmc, e9]
          omega
      | false =>
        have HE : Hid (k + run remB (s.data.toList.drop k) = m) := HR.out m hkm hms HA.out (fun _ => hp)
        obtain ⟨c0, c1, g1, cl⟩ := HM2.out
        have i1 : (m : Int) ≤ (s.size : Int) := by omega
        have i2 : (k : Int) ≤ (m : Int) := by omega
        clear hp
        go_wp2
        go_quiet (fail)
        go_wp2
        go_ret
        rw [HE.out]
        exact ⟨rfl, HM2.out.gr ((Gr.refl _).drewN _), HG2.out.trans (PO.ofGr ((Gr.refl _).drewN _))⟩
    · have hdc : decide (s.size ≤ m) = true := decide_eq_true (by omega)
      have HE : Hid (k + run remB (s.data.toList.drop k) = m) := HR.out m hkm hms HA.out (fun h => absurd h hlt)
      go_wp2_with fail
      refine (HO.out m _ HM.out).mono ?_
      rintro e w1 ⟨rfl, hg1⟩
      rw [hdc]
      have HM1 : Hid (PlAt w1 b s m) := HM.out.gr hg1
      have HG1 : Hid (PO b w w1) := HG.out.trans (PO.ofGr hg1)
      obtain ⟨c0, c1, g1, cl⟩ := HM1.out
      have i1 : (m : Int) ≤ (s.size : Int) := by omega
      have i2 : (k : Int) ≤ (m : Int) := by omega
      go_wp2
      go_quiet (fail)
      go_wp2
      go_ret
      rw [HE.out]
      exact ⟨rfl, HM1.out.gr ((Gr.refl _).drewN _), HG1.out.trans (PO.ofGr ((Gr.refl _).drewN _))⟩
set_option maxHeartbeats 4000000 in
set_option maxRecDepth 100000 in
theorem takeAllSgn (b : Nat) (s : ByteArray) (k : Nat) (w : World) (h : PlAt w b s k) (hk : k ≤ s.size) (hs : s.size ≤ 9223372036854775807) :
    Calls Tryz.prog 68 #[.pointer (some ⟨b, 0, none⟩), .func (.func 92) #[] #[]] w fun e w' => e = .returned (.string (s.extract k (k + run sgnB (s.data.toList.drop k)))) ∧ PlAt w' b s (k + run sgnB (s.data.toList.drop k)) ∧ PO b w w' := by
  have HO : Hid (∀ (m : Nat) (w' : World), PlAt w' b s m → Calls Tryz.prog 65 #[.pointer (some ⟨b, 0, none⟩)] w' fun e w2 => e = .returned (.bool (decide (s.size ≤ m))) ∧ Gr w' w2) := fun m w' g => over_any b s m w' g
  have HH : Hid (∀ (m : Nat) (hm : m < s.size) (w' : World), PlAt w' b s m → Calls Tryz.prog 66 #[.pointer (some ⟨b, 0, none⟩)] w' fun e w2 => e = .returned (.int .u8 ((s[m]'hm).toNat : Int)) ∧ Gr w' w2) := fun m hm w' g => here_any b s m w' g hm
  have HK : Hid (∀ (c : UInt8) (w : World), Calls Tryz.prog 92 #[.int .u8 (c.toNat : Int)] w fun e w' => e = .returned (.bool (sgnB c)) ∧ w' = w) := inWord_any
  have HP : Hid (PlAt w b s k) := h
  have HR : Hid (∀ m, k ≤ m → m ≤ s.size → (∀ j (hj : j < s.size), k ≤ j → j < m → sgnB (s[j]'hj) = true) → (∀ hm : m < s.size, sgnB (s[m]'hm) = false) → k + run sgnB (s.data.toList.drop k) = m) := by
    intro m hkm hms ha he
    have hl : s.data.toList.length = s.size := by simp
    have := Lex.run_eq sgnB (s.data.toList.drop k) (m - k) (by rw [List.length_drop, hl]; omega)
      (fun j hj hlt => by rw [List.getElem_drop]; exact ha (k + j) (by rw [List.length_drop, hl] at hj; omega) (by omega) (by omega))
      (fun hlt => by
        rw [List.length_drop, hl] at hlt
        rw [List.getElem_drop]
        have e : k + (m - k) = m := by omega
        simp only [e]
        exact he (by omega))
    omega
  obtain ⟨h0, h1, f1, hl⟩ := h
  go_enter Tryz.func68, Tryz.ntmps68
  go_wp2
  go_loopw [] (fun wr => ∃ m : Nat, k ≤ m ∧ m ≤ s.size ∧ PlAt wr b s m ∧ PO b w wr ∧ (∀ j (hj : j < s.size), k ≤ j → j < m → sgnB (s[j]'hj) = true)) (fun wr => s.size - intCell (wr.cell? ⟨b, 1, none⟩))
  case atStart => exact ⟨k, Nat.le_refl _, hk, HP.out, PO.ofGr (Gr.refl _), fun j _ h1 h2 => absurd h2 (by omega)⟩
  case round =>
    obtain ⟨m, hkm, hms, hpl, hpo, hall⟩ := hrel
    have HA : Hid (∀ j (hj : j < s.size), k ≤ j → j < m → sgnB (s[j]'hj) = true) := hall
    have HM : Hid (PlAt wr b s m) := hpl
    have HG : Hid (PO b w wr) := hpo
    have hmc : intCell (wr.cell? ⟨b, 1, none⟩) = m := by rw [hpl.c1]; rfl
    clear hall hpl hpo
    by_cases hlt : m < s.size
    · have hdc : decide (s.size ≤ m) = false := decide_eq_false (by omega)
      go_wp2_with fail
      refine (HO.out m _ HM.out).mono ?_
      rintro e w1 ⟨rfl, hg1⟩
      rw [hdc]
      have HM1 := HM.out.gr hg1
      have HM1 : Hid (PlAt w1 b s m) := HM.out.gr hg1
      have HG1 : Hid (PO b w w1) := HG.out.trans (PO.ofGr hg1)
      go_wp2_with fail
      refine (HH.out m hlt _ HM1.out).mono ?_
      rintro e w2 ⟨rfl, hg2⟩
      have HM2 : Hid (PlAt w2 b s m) := HM1.out.gr hg2
      have HG2 : Hid (PO b w w2) := HG1.out.trans (PO.ofGr hg2)
      go_wp2_with fail
      refine (HK.out (s[m]'hlt) _).mono ?_
      rintro e w3 ⟨rfl, hw3⟩
      obtain rfl := hw3.symm
      cases hp : sgnB (s[m]'hlt) with
      | true =>
        have HS : Hid (sgnB (s[m]'hlt) = true) := hp
        obtain ⟨c0, c1, g1, cl⟩ := HM2.out
        have e2 : wrap64 ((m : Int) + 1) = ((m + 1 : Nat) : Int) := by unfold wrap64; omega
        clear hp
        go_wp2
        go_roundw
        case rel =>
          refine ⟨m + 1, by omega, by omega, ?_, ?_, fun j hj h1 h2 => if e : j = m then by subst e; exact HS.out else HA.out j hj h1 (by omega)⟩
          · exact HM2.out.set (m + 1)
          · exact HG2.out.trans (PO.set _ _)
        case measure =>
          have e9 : intCell ((w2.setCell ⟨b, 1, none⟩ (.int .i64 ((m : Int) + 1))).cell? ⟨b, 1, none⟩) = m + 1 := by
            have := (HM2.out.set (m + 1)).c1
            rw [show ((m : Int) + 1) = ((m + 1 : Nat) : Int) by omega, this]; rfl
          rw [hmc, e9]
          omega
      | false =>
        have HE : Hid (k + run sgnB (s.data.toList.drop k) = m) := HR.out m hkm hms HA.out (fun _ => hp)
        obtain ⟨c0, c1, g1, cl⟩ := HM2.out
        have i1 : (m : Int) ≤ (s.size : Int) := by omega
        have i2 : (k : Int) ≤ (m : Int) := by omega
        clear hp
        go_wp2
        go_quiet (fail)
        go_wp2
        go_ret
        rw [HE.out]
        exact ⟨rfl, HM2.out.gr ((Gr.refl _).drewN _), HG2.out.trans (PO.ofGr ((Gr.refl _).drewN _))⟩
    · have hdc : decide (s.size ≤ m) = true := decide_eq_true (by omega)
      have HE : Hid (k + run sgnB (s.data.toList.drop k) = m) := HR.out m hkm hms HA.out (fun h => absurd h hlt)
      go_wp2_with fail
      refine (HO.out m _ HM.out).mono ?_
      rintro e w1 ⟨rfl, hg1⟩
      rw [hdc]
      have HM1 : Hid (PlAt w1 b s m) := HM.out.gr hg1
      have HG1 : Hid (PO b w w1) := HG.out.trans (PO.ofGr hg1)
      obtain ⟨c0, c1, g1, cl⟩ := HM1.out
      have i1 : (m : Int) ≤ (s.size : Int) := by omega
      have i2 : (k : Int) ≤ (m : Int) := by omega
      go_wp2
      go_quiet (fail)
      go_wp2
      go_ret
      rw [HE.out]
      exact ⟨rfl, HM1.out.gr ((Gr.refl _).drewN _), HG1.out.trans (PO.ofGr ((Gr.refl _).drewN _))⟩
set_option maxHeartbeats 4000000 in
set_option maxRecDepth 100000 in
theorem takeAllDig (b : Nat) (s : ByteArray) (k : Nat) (w : World) (h : PlAt w b s k) (hk : k ≤ s.size) (hs : s.size ≤ 9223372036854775807) :
    Calls Tryz.prog 68 #[.pointer (some ⟨b, 0, none⟩), .func (.func 93) #[] #[]] w fun e w' => e = .returned (.string (s.extract k (k + run digB (s.data.toList.drop k)))) ∧ PlAt w' b s (k + run digB (s.data.toList.drop k)) ∧ PO b w w' := by
  have HO : Hid (∀ (m : Nat) (w' : World), PlAt w' b s m → Calls Tryz.prog 65 #[.pointer (some ⟨b, 0, none⟩)] w' fun e w2 => e = .returned (.bool (decide (s.size ≤ m))) ∧ Gr w' w2) := fun m w' g => over_any b s m w' g
  have HH : Hid (∀ (m : Nat) (hm : m < s.size) (w' : World), PlAt w' b s m → Calls Tryz.prog 66 #[.pointer (some ⟨b, 0, none⟩)] w' fun e w2 => e = .returned (.int .u8 ((s[m]'hm).toNat : Int)) ∧ Gr w' w2) := fun m hm w' g => here_any b s m w' g hm
  have HK : Hid (∀ (c : UInt8) (w : World), Calls Tryz.prog 93 #[.int .u8 (c.toNat : Int)] w fun e w' => e = .returned (.bool (digB c)) ∧ w' = w) := digit_any
  have HP : Hid (PlAt w b s k) := h
  have HR : Hid (∀ m, k ≤ m → m ≤ s.size → (∀ j (hj : j < s.size), k ≤ j → j < m → digB (s[j]'hj) = true) → (∀ hm : m < s.size, digB (s[m]'hm) = false) → k + run digB (s.data.toList.drop k) = m) := by
    intro m hkm hms ha he
    have hl : s.data.toList.length = s.size := by simp
    have := Lex.run_eq digB (s.data.toList.drop k) (m - k) (by rw [List.length_drop, hl]; omega)
      (fun j hj hlt => by rw [List.getElem_drop]; exact ha (k + j) (by rw [List.length_drop, hl] at hj; omega) (by omega) (by omega))
      (fun hlt => by
        rw [List.length_drop, hl] at hlt
        rw [List.getElem_drop]
        have e : k + (m - k) = m := by omega
        simp only [e]
        exact he (by omega))
    omega
  obtain ⟨h0, h1, f1, hl⟩ := h
  go_enter Tryz.func68, Tryz.ntmps68
  go_wp2
  go_loopw [] (fun wr => ∃ m : Nat, k ≤ m ∧ m ≤ s.size ∧ PlAt wr b s m ∧ PO b w wr ∧ (∀ j (hj : j < s.size), k ≤ j → j < m → digB (s[j]'hj) = true)) (fun wr => s.size - intCell (wr.cell? ⟨b, 1, none⟩))
  case atStart => exact ⟨k, Nat.le_refl _, hk, HP.out, PO.ofGr (Gr.refl _), fun j _ h1 h2 => absurd h2 (by omega)⟩
  case round =>
    obtain ⟨m, hkm, hms, hpl, hpo, hall⟩ := hrel
    have HA : Hid (∀ j (hj : j < s.size), k ≤ j → j < m → digB (s[j]'hj) = true) := hall
    have HM : Hid (PlAt wr b s m) := hpl
    have HG : Hid (PO b w wr) := hpo
    have hmc : intCell (wr.cell? ⟨b, 1, none⟩) = m := by rw [hpl.c1]; rfl
    clear hall hpl hpo
    by_cases hlt : m < s.size
    · have hdc : decide (s.size ≤ m) = false := decide_eq_false (by omega)
      go_wp2_with fail
      refine (HO.out m _ HM.out).mono ?_
      rintro e w1 ⟨rfl, hg1⟩
      rw [hdc]
      have HM1 := HM.out.gr hg1
      have HM1 : Hid (PlAt w1 b s m) := HM.out.gr hg1
      have HG1 : Hid (PO b w w1) := HG.out.trans (PO.ofGr hg1)
      go_wp2_with fail
      refine (HH.out m hlt _ HM1.out).mono ?_
      rintro e w2 ⟨rfl, hg2⟩
      have HM2 : Hid (PlAt w2 b s m) := HM1.out.gr hg2
      have HG2 : Hid (PO b w w2) := HG1.out.trans (PO.ofGr hg2)
      go_wp2_with fail
      refine (HK.out (s[m]'hlt) _).mono ?_
      rintro e w3 ⟨rfl, hw3⟩
      obtain rfl := hw3.symm
      cases hp : digB (s[m]'hlt) with
      | true =>
        have HS : Hid (digB (s[m]'hlt) = true) := hp
        obtain ⟨c0, c1, g1, cl⟩ := HM2.out
        have e2 : wrap64 ((m : Int) + 1) = ((m + 1 : Nat) : Int) := by unfold wrap64; omega
        clear hp
        go_wp2
        go_roundw
        case rel =>
          refine ⟨m + 1, by omega, by omega, ?_, ?_, fun j hj h1 h2 => if e : j = m then by subst e; exact HS.out else HA.out j hj h1 (by omega)⟩
          · exact HM2.out.set (m + 1)
          · exact HG2.out.trans (PO.set _ _)
        case measure =>
          have e9 : intCell ((w2.setCell ⟨b, 1, none⟩ (.int .i64 ((m : Int) + 1))).cell? ⟨b, 1, none⟩) = m + 1 := by
            have := (HM2.out.set (m + 1)).c1
            rw [show ((m : Int) + 1) = ((m + 1 : Nat) : Int) by omega, this]; rfl
          rw [hmc, e9]
          omega
      | false =>
        have HE : Hid (k + run digB (s.data.toList.drop k) = m) := HR.out m hkm hms HA.out (fun _ => hp)
        obtain ⟨c0, c1, g1, cl⟩ := HM2.out
        have i1 : (m : Int) ≤ (s.size : Int) := by omega
        have i2 : (k : Int) ≤ (m : Int) := by omega
        clear hp
        go_wp2
        go_quiet (fail)
        go_wp2
        go_ret
        rw [HE.out]
        exact ⟨rfl, HM2.out.gr ((Gr.refl _).drewN _), HG2.out.trans (PO.ofGr ((Gr.refl _).drewN _))⟩
    · have hdc : decide (s.size ≤ m) = true := decide_eq_true (by omega)
      have HE : Hid (k + run digB (s.data.toList.drop k) = m) := HR.out m hkm hms HA.out (fun h => absurd h hlt)
      go_wp2_with fail
      refine (HO.out m _ HM.out).mono ?_
      rintro e w1 ⟨rfl, hg1⟩
      rw [hdc]
      have HM1 : Hid (PlAt w1 b s m) := HM.out.gr hg1
      have HG1 : Hid (PO b w w1) := HG.out.trans (PO.ofGr hg1)
      obtain ⟨c0, c1, g1, cl⟩ := HM1.out
      have i1 : (m : Int) ≤ (s.size : Int) := by omega
      have i2 : (k : Int) ≤ (m : Int) := by omega
      go_wp2
      go_quiet (fail)
      go_wp2
      go_ret
      rw [HE.out]
      exact ⟨rfl, HM1.out.gr ((Gr.refl _).drewN _), HG1.out.trans (PO.ofGr ((Gr.refl _).drewN _))⟩
set_option maxHeartbeats 1000000 in
theorem allSgn (s : ByteArray) (w : World) (hs : s.size ≤ 9223372036854775807) :
    Calls Tryz.prog 109 #[.string s, .func (.func 92) #[] #[]] w fun e w' => e = .returned (.bool (s.data.toList.all sgnB)) ∧ Gr w w' := by
  have HT : Hid (∀ w' b, PlAt w' b s 0 → Calls Tryz.prog 68 #[.pointer (some ⟨b, 0, none⟩), .func (.func 92) #[] #[]] w' fun e w2 => e = .returned (.string (s.extract 0 (0 + run sgnB (s.data.toList.drop 0)))) ∧ PlAt w2 b s (0 + run sgnB (s.data.toList.drop 0)) ∧ PO b w' w2) := fun w' b h => takeAllSgn b s 0 w' h (by omega) hs
  have HO : Hid (∀ (b m : Nat) (w' : World), PlAt w' b s m → Calls Tryz.prog 65 #[.pointer (some ⟨b, 0, none⟩)] w' fun e w2 => e = .returned (.bool (decide (s.size ≤ m))) ∧ Gr w' w2) := fun b m w' g => over_any b s m w' g
  have HE : Hid (s.data.toList.all sgnB = decide (s.size ≤ 0 + run sgnB (s.data.toList.drop 0))) := by
    show _ = _
    rw [List.drop_zero, Nat.zero_add]
    exact run_all sgnB s
  generalize s.data.toList.all sgnB = c at HE ⊢
  have HP : Hid (PlAt (w.alloc (.cells #[.string s, .int .i64 0] 88)) w.heap.size s 0) := ⟨by simp, by simp, by simp [go_sem], by simp⟩
  go_enter Tryz.func109, Tryz.ntmps109
  go_wp2_with fail
  refine (HT.out _ _ HP.out).mono ?_
  rintro e w1 ⟨rfl, hp1, ho1⟩
  have HP1 : Hid (PlAt w1 w.heap.size s (0 + run sgnB (s.data.toList.drop 0))) := hp1
  have HG1 : Hid (Gr w w1) := (Gr.refl w).alloc.po ho1 (Nat.le_refl _)
  clear hp1 ho1
  go_wp2_with fail
  refine (HO.out _ _ _ HP1.out).mono ?_
  rintro e w2 ⟨rfl, hg2⟩
  rw [← HE.out]
  go_wp2
  go_ret
  exact ⟨rfl, HG1.out.trans hg2⟩
set_option maxHeartbeats 1000000 in
theorem allDig (s : ByteArray) (w : World) (hs : s.size ≤ 9223372036854775807) :
    Calls Tryz.prog 109 #[.string s, .func (.func 93) #[] #[]] w fun e w' => e = .returned (.bool (s.data.toList.all digB)) ∧ Gr w w' := by
  have HT : Hid (∀ w' b, PlAt w' b s 0 → Calls Tryz.prog 68 #[.pointer (some ⟨b, 0, none⟩), .func (.func 93) #[] #[]] w' fun e w2 => e = .returned (.string (s.extract 0 (0 + run digB (s.data.toList.drop 0)))) ∧ PlAt w2 b s (0 + run digB (s.data.toList.drop 0)) ∧ PO b w' w2) := fun w' b h => takeAllDig b s 0 w' h (by omega) hs
  have HO : Hid (∀ (b m : Nat) (w' : World), PlAt w' b s m → Calls Tryz.prog 65 #[.pointer (some ⟨b, 0, none⟩)] w' fun e w2 => e = .returned (.bool (decide (s.size ≤ m))) ∧ Gr w' w2) := fun b m w' g => over_any b s m w' g
  have HE : Hid (s.data.toList.all digB = decide (s.size ≤ 0 + run digB (s.data.toList.drop 0))) := by
    show _ = _
    rw [List.drop_zero, Nat.zero_add]
    exact run_all digB s
  generalize s.data.toList.all digB = c at HE ⊢
  have HP : Hid (PlAt (w.alloc (.cells #[.string s, .int .i64 0] 88)) w.heap.size s 0) := ⟨by simp, by simp, by simp [go_sem], by simp⟩
  go_enter Tryz.func109, Tryz.ntmps109
  go_wp2_with fail
  refine (HT.out _ _ HP.out).mono ?_
  rintro e w1 ⟨rfl, hp1, ho1⟩
  have HP1 : Hid (PlAt w1 w.heap.size s (0 + run digB (s.data.toList.drop 0))) := hp1
  have HG1 : Hid (Gr w w1) := (Gr.refl w).alloc.po ho1 (Nat.le_refl _)
  clear hp1 ho1
  go_wp2_with fail
  refine (HO.out _ _ _ HP1.out).mono ?_
  rintro e w2 ⟨rfl, hg2⟩
  rw [← HE.out]
  go_wp2
  go_ret
  exact ⟨rfl, HG1.out.trans hg2⟩
end Go.Proofs.YtfobfpigbfepoaaGreatDoor
