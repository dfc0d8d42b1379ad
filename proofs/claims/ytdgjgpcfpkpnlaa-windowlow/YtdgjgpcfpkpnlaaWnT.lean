
/- window: Take. -/
import Derived.Test.YtdgjgpcfpkpnlaaWnC
import Derived.Test.YtdgjgpcfpkpnlaaRegL
import Derived.Deep.DeepCutAuto
namespace Go.Proofs.Ytdgjgpcfpkpnlaa
open Go.RowKit
open Wn (Wd)

/- what Take answers -/
def TkR (w w' : World) (e : Ending) (r : Wd × Bool × Int) : Prop :=
  ∃ ad cap, e = .returned (.tuple #[wdV r.1.low ad r.1.seen.length cap, .bool r.2.1, .int .i64 r.2.2]) ∧ WdAt w' ad cap r.1 ∧ (∀ a, ad = some a → w.heap.size ≤ a.block ∧ a.block < w'.heap.size) ∧ Gr w w'
theorem wd_zero (w : World) : WdAt w none 0 ⟨0, []⟩ := ⟨IntsAt.nil, by simp, by simp, fun _ => rfl, by simp, by simp⟩
theorem TkR.no {w w' : World} (c : Int) (h : Gr w w') : TkR w w' (.returned (.tuple #[wdV 0 none 0 0, .bool false, .int .i64 c])) (⟨0, []⟩, false, c) := ⟨none, 0, rfl, wd_zero _, (fun a e => by cases e), h⟩
theorem gr_set2 {a b : World} (h : Gr a b) (g : Nat) (hg : a.heap.size ≤ g) (x y : Value) : Gr a ((b.setCell ⟨g, 0, none⟩ x).setCell ⟨g, 1, none⟩ y) := (h.set _ hg x).set _ hg y
set_option maxHeartbeats 8000000 in
set_option maxRecDepth 100000 in
theorem take_bad (W : Wd) (q : Int) (ad : Option Addr) (cap : Nat) (w : World) (h : WdAt w ad cap W) (hb : ¬ (Wn.may W = true ∧ 1 ≤ q ∧ q ≤ 1000000000)) :
    Calls Try.prog 7 #[wdV W.low ad W.seen.length cap, .int .i64 q] w fun e w' => TkR w w' e (⟨0, []⟩, false, 2) := by
  have HM : Hid (∀ w', Gr w w' → Calls Try.prog 9 #[wdV W.low ad W.seen.length cap] w' fun e w2 => e = .returned (.int .i64 (mayE W)) ∧ Gr w' w2) := fun w' g => may_any W ad cap w' (h.gr g)
  clear h
  generalize W.seen.length = n at *
  generalize W.low = low at *
  by_cases hm : Wn.may W = true
  · have e0 : mayE W = 0 := by unfold mayE; rw [if_pos hm]
    rw [e0] at HM
    by_cases h1 : q < 1
    · clear hb
      go_enter Try.func7, Try.ntmps7
      go_wp2_with fail
      refine (HM.out _ (by repeat (first | exact Gr.refl _ | refine Gr.alloc ?_ | refine Gr.drew ?_ | refine Gr.trans ?_ (by assumption)))).mono ?_
      rintro e w1 ⟨rfl, hg1⟩
      have G1 : Hid (Gr w w1) := (Gr.refl w).alloc.alloc.trans hg1
      obtain ⟨c0, c1, f0, f1, lt⟩ := (Bx2.new (w.alloc (.cells #[.int .i64 low, .slice ad n cap] 24)) (.int .i64 0) (.slice none 0 0) 24 (w.heap.size + 1) (by simp)).gr hg1
      clear hg1
      go_wp2
      exact bodyPost_ret (v := .tuple #[wdV 0 none 0 0, .bool false, .int .i64 2]) (by simp [results, Try.results7, go_sem, *]) rfl (TkR.no 2 (gr_set2 G1.out _ (by omega) _ _))
    · have h2 : 1000000000 < q := by
        rcases Int.lt_or_le 1000000000 q with c | c
        · exact c
        · exact absurd ⟨hm, by omega, c⟩ hb
      clear hb
      go_enter Try.func7, Try.ntmps7
      go_wp2_with fail
      refine (HM.out _ (by repeat (first | exact Gr.refl _ | refine Gr.alloc ?_ | refine Gr.drew ?_ | refine Gr.trans ?_ (by assumption)))).mono ?_
      rintro e w1 ⟨rfl, hg1⟩
      have G1 : Hid (Gr w w1) := (Gr.refl w).alloc.alloc.trans hg1
      obtain ⟨c0, c1, f0, f1, lt⟩ := (Bx2.new (w.alloc (.cells #[.int .i64 low, .slice ad n cap] 24)) (.int .i64 0) (.slice none 0 0) 24 (w.heap.size + 1) (by simp)).gr hg1
      clear hg1
      go_wp2
      exact bodyPost_ret (v := .tuple #[wdV 0 none 0 0, .bool false, .int .i64 2]) (by simp [results, Try.results7, go_sem, *]) rfl (TkR.no 2 (gr_set2 G1.out _ (by omega) _ _))
  · have e0 : mayE W = 2 := by unfold mayE; rw [if_neg hm]
    rw [e0] at HM
    clear hb hm e0
    go_enter Try.func7, Try.ntmps7
    go_wp2_with fail
    refine (HM.out _ (by repeat (first | exact Gr.refl _ | refine Gr.alloc ?_ | refine Gr.drew ?_ | refine Gr.trans ?_ (by assumption)))).mono ?_
    rintro e w1 ⟨rfl, hg1⟩
    have G1 : Hid (Gr w w1) := (Gr.refl w).alloc.alloc.trans hg1
    obtain ⟨c0, c1, f0, f1, lt⟩ := (Bx2.new (w.alloc (.cells #[.int .i64 low, .slice ad n cap] 24)) (.int .i64 0) (.slice none 0 0) 24 (w.heap.size + 1) (by simp)).gr hg1
    clear hg1
    go_wp2
    exact bodyPost_ret (v := .tuple #[wdV 0 none 0 0, .bool false, .int .i64 2]) (by simp [results, Try.results7, go_sem, *]) rfl (TkR.no 2 (gr_set2 G1.out _ (by omega) _ _))
set_option maxHeartbeats 8000000 in
set_option maxRecDepth 100000 in
theorem take_far (W : Wd) (q : Int) (ad : Option Addr) (cap : Nat) (w : World) (h : WdAt w ad cap W) (hm : Wn.may W = true) (h1 : 1 ≤ q) (h2 : q ≤ 1000000000) (hf : W.low + 16 < q) :
    Calls Try.prog 7 #[wdV W.low ad W.seen.length cap, .int .i64 q] w fun e w' => TkR w w' e (⟨0, []⟩, false, 180) := by
  have HM : Hid (∀ w', Gr w w' → Calls Try.prog 9 #[wdV W.low ad W.seen.length cap] w' fun e w2 => e = .returned (.int .i64 (mayE W)) ∧ Gr w' w2) := fun w' g => may_any W ad cap w' (h.gr g)
  have hlo := ((Wn.may_iff W).1 hm).1
  have e0 : mayE W = 0 := by unfold mayE; rw [if_pos hm]
  rw [e0] at HM
  clear h hm e0
  generalize W.seen.length = n at *
  generalize W.low = low at *
  go_enter Try.func7, Try.ntmps7
  go_wp2_with fail
  refine (HM.out _ (by repeat (first | exact Gr.refl _ | refine Gr.alloc ?_ | refine Gr.drew ?_ | refine Gr.trans ?_ (by assumption)))).mono ?_
  rintro e w1 ⟨rfl, hg1⟩
  have G1 : Hid (Gr w w1) := (Gr.refl w).alloc.alloc.trans hg1
  obtain ⟨c0, c1, f0, f1, lt⟩ := (Bx2.new (w.alloc (.cells #[.int .i64 low, .slice ad n cap] 24)) (.int .i64 0) (.slice none 0 0) 24 (w.heap.size + 1) (by simp)).gr hg1
  obtain ⟨d0, d1, g0, g1, dt⟩ := ((Bx2.new w (.int .i64 low) (.slice ad n cap) 24 w.heap.size rfl).gr (Gr.refl _).alloc).gr hg1
  clear hg1
  go_wp2
  exact bodyPost_ret (v := .tuple #[wdV 0 none 0 0, .bool false, .int .i64 180]) (by simp [results, Try.results7, go_sem, *]) rfl (TkR.no 180 (gr_set2 G1.out _ (by omega) _ _))
set_option maxHeartbeats 8000000 in
set_option maxRecDepth 100000 in
theorem take_had (W : Wd) (q : Int) (ad : Option Addr) (cap : Nat) (w : World) (h : WdAt w ad cap W) (hm : Wn.may W = true) (h1 : 1 ≤ q) (h2 : q ≤ 1000000000) (hf : ¬ (W.low + 16 < q)) (hh : Wn.has W q = true) :
    Calls Try.prog 7 #[wdV W.low ad W.seen.length cap, .int .i64 q] w fun e w' => TkR w w' e (W, false, 0) := by
  have HM : Hid (∀ w', Gr w w' → Calls Try.prog 9 #[wdV W.low ad W.seen.length cap] w' fun e w2 => e = .returned (.int .i64 (mayE W)) ∧ Gr w' w2) := fun w' g => may_any W ad cap w' (h.gr g)
  obtain ⟨hlo, hup, _⟩ := (Wn.may_iff W).1 hm
  have hle := Wn.may_len hm
  have HC : Hid (∀ w', Gr w w' → Calls Try.prog 16 #[.slice ad W.seen.length cap] w' fun e w2 => ∃ v, e = .returned v ∧ w2.ownsRow w'.heap.size 3 1 v W.seen.length (intV W.seen) ∧ Gr w' w2) := fun w' g => copy_any W.seen ad cap w' (h.row.gr g) (by omega) h.non
  have HS : Hid (∀ w' ad' cap', IntsAt w' ad' W.seen → Calls Try.prog 17 #[.slice ad' W.seen.length cap', .int .i64 q] w' fun e w2 => e = .returned (.tuple #[.int .i64 (Wn.pos q W.seen : Nat), .bool (decide (q ∈ W.seen))]) ∧ Gr w' w2) := fun w' ad' cap' hL => search_any W.seen ad' cap' q w' hL (by omega) hup
  have e0 : mayE W = 0 := by unfold mayE; rw [if_pos hm]
  rw [e0] at HM
  have hor : decide (q ∈ W.seen) = true ∨ (decide (q ∈ W.seen) = false ∧ q ≤ W.low) := by
    by_cases c : q ∈ W.seen
    · exact Or.inl (decide_eq_true c)
    · rcases (Wn.has_iff W q).1 hh with h | h
      · exact absurd h c
      · exact Or.inr ⟨decide_eq_false c, h.2⟩
  have HL0 := Lib.hid h.lo0
  have HL1 := Lib.hid h.lo1
  have HLn := Lib.hid h.len
  clear h hm e0 hh hup
  obtain ⟨low, l⟩ := W
  simp only at *
  go_enter Try.func7, Try.ntmps7
  go_wp2_with fail
  refine (HM.out _ (by repeat (first | exact Gr.refl _ | refine Gr.alloc ?_ | refine Gr.drew ?_ | refine Gr.trans ?_ (by assumption)))).mono ?_
  rintro e w1 ⟨rfl, hg1⟩
  have G1 : Hid (Gr w w1) := (Gr.refl w).alloc.alloc.trans hg1
  have B1 := Lib.hid ((Bx2.new (w.alloc (.cells #[.int .i64 low, .slice ad l.length cap] 24)) (.int .i64 0) (.slice none 0 0) 24 (w.heap.size + 1) (by simp)).gr hg1)
  have A1 := Lib.hid (((Bx2.new w (.int .i64 low) (.slice ad l.length cap) 24 w.heap.size rfl).gr (Gr.refl _).alloc).gr hg1)
  obtain ⟨d0, d1, _, _, _⟩ := A1.out
  clear hg1 HM
  go_wp2_with fail
  refine (HC.out _ G1.out).mono ?_
  rintro e w2 ⟨v, rfl, ho, hg2⟩
  obtain ⟨ad2, cap2, rfl, hc2, hL2, hn2, hb2⟩ := own_intsN ho
  have R2 := Lib.hid hL2
  have G2 := Lib.hid (G1.out.trans hg2)
  have B2 := Lib.hid (B1.out.gr hg2)
  have A2 := Lib.hid (A1.out.gr hg2)
  have C2 := Lib.hid hn2
  have N2 : Hid (∀ a, ad2 = some a → w.heap.size + 2 ≤ a.block ∧ a.block < w2.heap.size) := fun a e => by
    have h1 := hb2 a e
    have h2 := B1.out.lt
    omega
  clear d0 d1 ho hg2 hL2 hn2 hb2 HC G1 B1 A1
  go_wp2_with fail
  refine (HS.out _ _ _ R2.out).mono ?_
  rintro e w3 ⟨rfl, hg3⟩
  have R3 := Lib.hid (R2.out.gr hg3)
  have G3 := Lib.hid (G2.out.trans hg3)
  obtain ⟨c0, c1, f0, f1, lt⟩ := B2.out.gr hg3
  obtain ⟨d0, d1, _, _, dt⟩ := A2.out.gr hg3
  have N3 : Hid (∀ a, ad2 = some a → w.heap.size + 2 ≤ a.block ∧ a.block < w3.heap.size) := fun a e => by
    have h1 := N2.out a e
    have h2 := hg3.size
    omega
  clear hg3 HS R2 G2 B2 A2 N2
  rcases hor with ht | ⟨ht, hq⟩
  · rw [ht]
    go_wp2
    exact bodyPost_ret (v := .tuple #[wdV low ad2 l.length cap2, .bool false, .int .i64 0]) (by simp [results, Try.results7, go_sem, *]) rfl
      ⟨ad2, cap2, rfl, ⟨(R3.out.set _ _ (fun a e => by have := N3.out a e; simp; omega)).set _ _ (fun a e => by have := N3.out a e; simp; omega), hc2, HLn.out, C2.out, HL0.out, HL1.out⟩, (fun a e => by have := N3.out a e; simp; omega), gr_set2 G3.out _ (by omega) _ _⟩
  · rw [ht]
    go_wp2
    exact bodyPost_ret (v := .tuple #[wdV low ad2 l.length cap2, .bool false, .int .i64 0]) (by simp [results, Try.results7, go_sem, *]) rfl
      ⟨ad2, cap2, rfl, ⟨(R3.out.set _ _ (fun a e => by have := N3.out a e; simp; omega)).set _ _ (fun a e => by have := N3.out a e; simp; omega), hc2, HLn.out, C2.out, HL0.out, HL1.out⟩, (fun a e => by have := N3.out a e; simp; omega), gr_set2 G3.out _ (by omega) _ _⟩
theorem heap_new (w : World) (o : Obj) : (w.drew.alloc o).heap[w.heap.size]? = some o := by
  show (w.heap.push o)[w.heap.size]? = some o
  simp
theorem hold1 {a b : World} (g : Gr a b) {p : Addr} {v : Value} (h : a.cell? p = some v) : b.cell? p = some v := g.keep h
theorem below_keep {B : Nat} {a b : World} (g : Below B a b) {p : Addr} (hp : p.block < B) {v : Value} (h : a.cell? p = some v) : b.cell? p = some v := (g.cell hp).trans h
theorem Bx2.below {B : Nat} {w w' : World} {g : Nat} {a b : Value} (h : Bx2 w g a b) (k : Below B w w') (hg : g < B) : Bx2 w' g a b :=
  ⟨below_keep k hg h.c0, below_keep k hg h.c1, (k.frozen (p := ⟨g, 0, none⟩) hg).trans h.f0, (k.frozen (p := ⟨g, 1, none⟩) hg).trans h.f1, Nat.lt_of_lt_of_le h.lt k.size⟩
theorem Gr.belowT {a b c : World} (h : Gr a b) {B : Nat} (k : Below B b c) (hB : a.heap.size ≤ B) : Gr a c := ⟨h.below.trans (k.mono hB)⟩
set_option maxHeartbeats 8000000 in
set_option maxRecDepth 100000 in
theorem take_new (W : Wd) (q : Int) (ad : Option Addr) (cap : Nat) (w : World) (h : WdAt w ad cap W) (hm : Wn.may W = true) (h1 : 1 ≤ q) (h2 : q ≤ 1000000000) (hf : ¬ (W.low + 16 < q)) (hh : Wn.has W q = false) :
    Calls Try.prog 7 #[wdV W.low ad W.seen.length cap, .int .i64 q] w fun e w' => TkR w w' e (Wn.more W q, true, 0) := by
  have HM : Hid (∀ w', Gr w w' → Calls Try.prog 9 #[wdV W.low ad W.seen.length cap] w' fun e w2 => e = .returned (.int .i64 (mayE W)) ∧ Gr w' w2) := fun w' g => may_any W ad cap w' (h.gr g)
  obtain ⟨hlo, hup, hsn⟩ := (Wn.may_iff W).1 hm
  have hle := Wn.may_len hm
  have hnot : q ∉ W.seen := fun hx => by rw [(Wn.has_iff W q).2 (Or.inl hx)] at hh; cases hh
  have hql : ¬ (q ≤ W.low) := fun hx => by rw [(Wn.has_iff W q).2 (Or.inr ⟨h1, hx⟩)] at hh; cases hh
  have HC : Hid (∀ w', Gr w w' → Calls Try.prog 16 #[.slice ad W.seen.length cap] w' fun e w2 => ∃ v, e = .returned v ∧ w2.ownsRow w'.heap.size 3 1 v W.seen.length (intV W.seen) ∧ Gr w' w2) := fun w' g => copy_any W.seen ad cap w' (h.row.gr g) (by omega) h.non
  have HS : Hid (∀ w' ad' cap', IntsAt w' ad' W.seen → Calls Try.prog 17 #[.slice ad' W.seen.length cap', .int .i64 q] w' fun e w2 => e = .returned (.tuple #[.int .i64 (Wn.pos q W.seen : Nat), .bool false]) ∧ Gr w' w2) := fun w' ad' cap' hL => by
    have := search_any W.seen ad' cap' q w' hL (by omega) hup
    rw [decide_eq_false hnot] at this
    exact this
  have HI : Hid (∀ (base : Nat) (v : Value) (vb : Nat) (w' : World), w'.ownsRow base 3 1 v W.seen.length (intV W.seen) → w'.heap[vb]? = some (.cells #[.int .i64 q] 3 (0, 0)) → (∀ g, v.ownBlock = some g → vb ≠ g) → base ≤ w'.heap.size →
      Calls Try.prog 19 #[v, .int .i64 (Wn.pos q W.seen : Nat), .slice (some ⟨vb, 0, none⟩) 1 1] w' fun e w2 => InR base w' w2 e (Wn.ins q W.seen)) := fun base v vb w' ho hv hne hb => by
    have := ins_any base W.seen v (Wn.pos q W.seen) q vb 3 w' ho (by omega) (Wn.pos_le _ _) hv hne hb
    unfold put at this
    rw [Wn.pos_ins q W.seen hup hnot] at this
    exact this
  have hins : (Wn.ins q W.seen).length = W.seen.length + 1 := Wn.ins_len q _ hnot
  have HG : Hid (∀ (w' : World) (g cap' : Nat), IntsAt w' (some ⟨g, 0, none⟩) (Wn.ins q W.seen) → (Wn.ins q W.seen).length ≤ cap' → Calls Try.prog 18 #[.int .i64 W.low, .slice (some ⟨g, 0, none⟩) (Wn.ins q W.seen).length cap'] w' fun e w2 => gonR w' w2 e (some ⟨g, 0, none⟩) (Wn.more W q)) := fun w' g cap' hL hc => by
    have := goon_any W.low (Wn.ins q W.seen) (some ⟨g, 0, none⟩) cap' w' hL (by omega) hc hlo.1 (by omega) (fun n hn => by
      rcases (Wn.mem_ins q n W.seen).1 hn with rfl | hn
      · omega
      · have := hsn n hn; omega)
    rw [Wn.gon_more hm h1 (by omega) hh] at this
    exact this
  have HMr : Hid ((Wn.more W q).seen.length ≤ 9223372036854775807 ∧ -9223372036854775808 ≤ (Wn.more W q).low ∧ (Wn.more W q).low ≤ 9223372036854775807) := by
    have ht := Wn.more_took hm h1 (show q ≤ W.low + 16 by omega)
    have hl0 := ht.low0
    have hl1 : (Wn.more W q).low ≤ W.low + 17 := (Wn.up_spec (fun n => Wn.has W n || decide (n = q)) 17 W.low).2.1
    have hl2 : (Wn.more W q).seen.length ≤ 16 := by
      have := Wn.up_len (Wn.more W q).seen ((Wn.more W q).low + 1) (W.low + 16) ht.up (fun n hn => ⟨ht.ab n hn, by
        rcases (ht.has n).1 ((Wn.has_iff _ _).2 (Or.inl hn)) with hx | hx
        · exact (Wn.has_le hm hx).2
        · omega⟩)
      have := Wn.took_low ht
      omega
    exact ⟨by omega, by omega, by omega⟩
  have e0 : mayE W = 0 := by unfold mayE; rw [if_pos hm]
  rw [e0] at HM
  clear h hm e0 hh hup hsn hnot hins
  generalize Wn.more W q = M at *
  generalize hP : Wn.pos q W.seen = ps at *
  generalize Wn.ins q W.seen = il at *
  clear hP
  obtain ⟨low, l⟩ := W
  simp only at *
  go_enter Try.func7, Try.ntmps7
  go_wp2_with fail
  refine (HM.out _ (by repeat (first | exact Gr.refl _ | refine Gr.alloc ?_ | refine Gr.drew ?_ | refine Gr.trans ?_ (by assumption)))).mono ?_
  rintro e w1 ⟨rfl, hg1⟩
  have G1 : Hid (Gr w w1) := (Gr.refl w).alloc.alloc.trans hg1
  have B1 := Lib.hid ((Bx2.new (w.alloc (.cells #[.int .i64 low, .slice ad l.length cap] 24)) (.int .i64 0) (.slice none 0 0) 24 (w.heap.size + 1) (by simp)).gr hg1)
  have A1 := Lib.hid (((Bx2.new w (.int .i64 low) (.slice ad l.length cap) 24 w.heap.size rfl).gr (Gr.refl _).alloc).gr hg1)
  obtain ⟨d0, d1, _, _, _⟩ := A1.out
  have hs1 := B1.out.lt
  clear hg1 HM
  go_wp2_with fail
  refine (HC.out _ G1.out).mono ?_
  rintro e w2 ⟨v, rfl, ho, hg2⟩
  obtain ⟨ad2, cap2, rfl, hc2, hL2, hn2, hb2⟩ := own_intsN ho
  have O2 := Lib.hid ho
  have R2 := Lib.hid hL2
  have G2 := Lib.hid (G1.out.trans hg2)
  have B2 := Lib.hid (B1.out.gr hg2)
  have A2 := Lib.hid (A1.out.gr hg2)
  have S2 := hg2.size
  have N2 : Hid (∀ a, ad2 = some a → w1.heap.size ≤ a.block ∧ a.block < w2.heap.size) := hb2
  clear d0 d1 ho hg2 hL2 hn2 hb2 HC G1 B1 A1
  go_wp2_with fail
  refine (HS.out _ _ _ R2.out).mono ?_
  rintro e w3 ⟨rfl, hg3⟩
  have O3 := Lib.hid (row_gr O2.out hg3)
  have G3 := Lib.hid (G2.out.trans hg3)
  have B3 := Lib.hid (B2.out.gr hg3)
  have A3 := Lib.hid (A2.out.gr hg3)
  obtain ⟨d0, d1, _, _, dt⟩ := A3.out
  have S3 := hg3.size
  clear hg3 HS R2 G2 B2 A2 O2
  go_upto_region 9 with fail
  refine beginL 8 (fun w' => w'.cell? ⟨w.heap.size, 0, none⟩ = some (.int .i64 low)) (by kernel_rfl) (by first | with_reducible exact hHeld | with_reducible exact d0 | with_reducible exact k5 | with_reducible exact k4 | exact Gr.keep (by repeat (first | exact Gr.refl _ | refine Gr.alloc ?_ | refine Gr.drew ?_ | refine Gr.trans ?_ (by assumption))) d0) (fun hHeld => ?_)
  refine takeW 0 48 (v := ?_) rfl rfl (by decide) (by kernel_rfl) (by kernel_rfl) (by kernel_rfl) (fun _ _ _ h => h) (by rfl) ?_ (fun _ => hHeld) ?_
  rotate_left
  · (intro w; (try intro hSw); (try dsimp only at hSw); go_simp; try with_reducible rfl)
  simp only [Act.put, List.setIfInBounds_toArray, List.set_cons_zero, List.set_cons_succ]
  refine takeW 2 50 (v := ?_) rfl rfl (by decide) (by kernel_rfl) (by kernel_rfl) (by kernel_rfl) (fun _ _ _ h => h) (by rfl) ?_ (fun _ => hHeld) ?_
  rotate_left
  · (intro w; (try intro hSw); (try dsimp only at hSw); go_simp; try with_reducible rfl)
  simp only [Act.put, List.setIfInBounds_toArray, List.set_cons_zero, List.set_cons_succ]
  refine takeW 3 51 (v := ?_) rfl rfl (by decide) (by kernel_rfl) (by kernel_rfl) (by kernel_rfl) (fun _ _ _ h => h) (by rfl) ?_ (fun _ => hHeld) ?_
  rotate_left
  · (intro w; (try intro hSw); (try dsimp only at hSw); go_simp; try with_reducible rfl)
  simp only [Act.put, List.setIfInBounds_toArray, List.set_cons_zero, List.set_cons_succ]
  refine takeW 4 52 (v := ?_) rfl rfl (by decide) (by kernel_rfl) (by kernel_rfl) (by kernel_rfl) (fun _ _ _ h => h) (by rfl) ?_ (fun _ => hHeld) ?_
  rotate_left
  · (intro w; (try intro hSw); (try dsimp only at hSw); go_simp; try with_reducible rfl)
  simp only [Act.put, List.setIfInBounds_toArray, List.set_cons_zero, List.set_cons_succ]
  refine takeS 1 49 (v := ?_) rfl rfl (by decide) (by kernel_rfl) (by kernel_rfl) (by kernel_rfl) (by kernel_rfl) (by kernel_rfl) (fun _ _ _ h => h) (by rfl) ?_ hHeld ?_
  rotate_left
  · (intro w; (try intro hSw); (try dsimp only at hSw); go_simp; try with_reducible rfl)
  simp only [Act.put, List.setIfInBounds_toArray, List.set_cons_zero, List.set_cons_succ]
  refine stepC 5 (by kernel_rfl) rfl (fun K hK => ?_)
  go_simp
  refine hK.out _ _ (by first | with_reducible exact hHeld | with_reducible exact d0 | with_reducible exact k5 | with_reducible exact k4 | exact Gr.keep (by repeat (first | exact Gr.refl _ | refine Gr.alloc ?_ | refine Gr.drew ?_ | refine Gr.trans ?_ (by assumption))) d0) (fun hHeldN => ?_)
  clear hHeld hK K
  have hHeld := hHeldN
  clear hHeldN
  refine stepC 6 (by kernel_rfl) rfl (fun K hK => ?_)
  go_simp
  (refine (HI.out w1.heap.size _ w3.heap.size _ (row_gr O3.out (Gr.refl _).drew.alloc) (heap_new _ _) (fun g e => by cases ad2 with | none => cases e | some a => cases e; have := (N2.out a rfl).2; omega) (by simp; omega)).mono ?_; rintro e w4 ⟨g, cap4, rfl, hL4, hc4, hbg, hgl, hb4⟩; have k4 : w4.cell? ⟨w.heap.size, 0, none⟩ = some (.int .i64 low) := below_keep hb4 (p := ⟨w.heap.size, 0, none⟩) (by show w.heap.size < w1.heap.size; omega) (Gr.keep (Gr.refl _).drew.alloc d0))
  (try go_wp2_with fail)
  refine hK.out _ _ (by first | with_reducible exact hHeld | with_reducible exact d0 | with_reducible exact k5 | with_reducible exact k4 | exact Gr.keep (by repeat (first | exact Gr.refl _ | refine Gr.alloc ?_ | refine Gr.drew ?_ | refine Gr.trans ?_ (by assumption))) d0) (fun hHeldN => ?_)
  clear hHeld hK K
  have hHeld := hHeldN
  clear hHeldN
  have B4 := Lib.hid (Bx2.below (B3.out.gr (Gr.refl _).drew.alloc) hb4 (by omega))
  have G4 := Lib.hid (G3.out.drew.alloc.belowT hb4 (by omega))
  clear hb4 B3 G3 A3
  refine stepC 7 (by kernel_rfl) rfl (fun K hK => ?_)
  go_simp
  (refine (HG.out _ g cap4 hL4 hc4).mono ?_; rintro e w5 ⟨ad5, cap5, rfl, hL5, hc5, hn5, hb5, hg5⟩; have k5 : w5.cell? ⟨w.heap.size, 0, none⟩ = some (.int .i64 low) := hg5.keep k4)
  (try go_wp2_with fail)
  refine hK.out _ _ (by first | with_reducible exact hHeld | with_reducible exact d0 | with_reducible exact k5 | with_reducible exact k4 | exact Gr.keep (by repeat (first | exact Gr.refl _ | refine Gr.alloc ?_ | refine Gr.drew ?_ | refine Gr.trans ?_ (by assumption))) d0) (fun hHeldN => ?_)
  clear hHeld hK K
  have hHeld := hHeldN
  clear hHeldN
  have G5 := Lib.hid (G4.out.trans hg5)
  have N5 : Hid (∀ a, ad5 = some a → w.heap.size + 2 ≤ a.block ∧ a.block < w5.heap.size) := fun a e => by
    obtain ⟨a', e', hb'⟩ := hb5 a e
    cases e'
    have := hg5.size
    simp only at hb'
    omega
  have R5 := Lib.hid hL5
  have C5 := Lib.hid hn5
  obtain ⟨c0, c1, f0, f1, lt⟩ := B4.out.gr hg5
  clear hL4 hL5 hn5 hb5 hg5 B4 G4
  refine stepS (by kernel_rfl) rfl (by kernel_rfl) (fun K hK => ?_)
  go_simp
  refine hK.out _ _ ?_
  clear hHeld hK K
  refine takeW 9 5 (v := ?_) rfl rfl (by decide) (by kernel_rfl) (by kernel_rfl) (by kernel_rfl) (fun _ _ _ h => h) (by rfl) ?_ (fun h => listed_done (by kernel_rfl) h) ?_
  rotate_left
  · (intro w; (try intro hSw); (try dsimp only at hSw); go_simp; try with_reducible rfl)
  simp only [Act.put, List.setIfInBounds_toArray, List.set_cons_zero, List.set_cons_succ]
  refine takeW 10 6 (v := ?_) rfl rfl (by decide) (by kernel_rfl) (by kernel_rfl) (by kernel_rfl) (fun _ _ _ h => h) (by rfl) ?_ (fun h => listed_done (by kernel_rfl) h) ?_
  rotate_left
  · (intro w; (try intro hSw); (try dsimp only at hSw); go_simp; try with_reducible rfl)
  simp only [Act.put, List.setIfInBounds_toArray, List.set_cons_zero, List.set_cons_succ]
  refine doneL (by kernel_rfl) ?_ _
  go_wp2
  exact bodyPost_ret (v := .tuple #[wdV M.low ad5 M.seen.length cap5, .bool true, .int .i64 0]) (by simp [results, Try.results7, go_sem, *]) rfl
    ⟨ad5, cap5, rfl, ⟨(R5.out.set _ _ (fun a e => by have := N5.out a e; simp; omega)).set _ _ (fun a e => by have := N5.out a e; simp; omega), hc5, HMr.out.1, C5.out, HMr.out.2.1, HMr.out.2.2⟩, (fun a e => by have := N5.out a e; simp; omega), gr_set2 G5.out _ (by omega) _ _⟩
/- Take, whatever it is given -/
theorem take_any (W : Wd) (q : Int) (ad : Option Addr) (cap : Nat) (w : World) (h : WdAt w ad cap W) :
    Calls Try.prog 7 #[wdV W.low ad W.seen.length cap, .int .i64 q] w fun e w' => TkR w w' e (Wn.take W q) := by
  unfold Wn.take
  by_cases c : Wn.may W = true ∧ 1 ≤ q ∧ q ≤ 1000000000
  · rw [if_pos c]
    by_cases f : W.low + 16 < q
    · rw [if_pos f]; exact take_far W q ad cap w h c.1 c.2.1 c.2.2 f
    · rw [if_neg f]
      by_cases t : Wn.has W q = true
      · rw [if_pos t]; exact take_had W q ad cap w h c.1 c.2.1 c.2.2 f t
      · rw [if_neg t]; exact take_new W q ad cap w h c.1 c.2.1 c.2.2 f (by simpa using t)
  · rw [if_neg c]; exact take_bad W q ad cap w h c
end Go.Proofs.Ytdgjgpcfpkpnlaa
