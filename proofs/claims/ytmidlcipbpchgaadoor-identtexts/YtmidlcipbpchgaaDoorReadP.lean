/- read: the only id whose text a text could be. -/
import Derived.Test.YtmidlcipbpchgaaDoorCutQ
import Derived.Test.YtmidlcipbpchgaaDoorParP
namespace Go.Proofs.YtmidlcipbpchgaaDoor
open Go.RowKit

def readH : Nat → List UInt8 → Bool → List (Int × Int)
  | 0, _, _ => []
  | _ + 1, _, false => []
  | k + 1, l, true => pairE (Idn.cut3 l 47).1 64 :: readH k (Idn.cut3 l 47).2.1 (Idn.cut3 l 47).2.2
def readL (l : List UInt8) : List (Int × Int) := readH 4 (Idn.cut3 l 47).2.1 (Idn.cut3 l 47).2.2
def readR (l : List UInt8) : Int × Int := pairE (Idn.cut3 l 47).1 46
theorem readH_len (k : Nat) : ∀ (l : List UInt8) (m : Bool), (readH k l m).length ≤ k := by
  induction k with
  | zero => intro l m; simp [readH]
  | succ k ih =>
    intro l m
    cases m with
    | false => simp [readH]
    | true => rw [readH, List.length_cons]; have := ih (Idn.cut3 l 47).2.1 (Idn.cut3 l 47).2.2; omega

def lenCell : Option Value → Nat
  | some (.slice _ n _) => n
  | _ => 0
theorem hops_lit1' (w : World) (a b : Int) (t : TypeId) : HopsAt (w.alloc (.cells #[.int .i64 a, .int .i64 b] t)) (some ⟨w.heap.size, 0, none⟩) [(a, b)] := by
  intro j hj
  obtain rfl : j = 0 := by simpa using hj
  exact ⟨_, _, rfl, by simp, by simp, by simp⟩
theorem grownBy_set (w : World) (p : Addr) (u : Value) : w.grownBy (w.setCell p u) (some p.block) :=
  ⟨rfl, rfl, rfl, by simp [World.setCell], fun k _ hk => Below.heap_setCell _ _ _ _ (fun e => hk (by rw [e]))⟩
theorem BoxAt.below {w w' : World} {g B : Nat} {a b c : Value} (h : BoxAt w g a b c) (k : Below B w w') (hB : g < B) : BoxAt w' g a b c :=
  ⟨(k.cell (p := ⟨g, 0, none⟩) hB).trans h.c0, (k.cell (p := ⟨g, 1, none⟩) hB).trans h.c1, (k.cell (p := ⟨g, 2, none⟩) hB).trans h.c2, (k.frozen (p := ⟨g, 0, none⟩) hB).trans h.f0, (k.frozen (p := ⟨g, 1, none⟩) hB).trans h.f1, (k.frozen (p := ⟨g, 2, none⟩) hB).trans h.f2, Nat.lt_of_lt_of_le h.lt k.size⟩
theorem BoxAt.set2 {w : World} {g : Nat} {a b c : Value} (h : BoxAt w g a b c) (u : Value) : BoxAt (w.setCell ⟨g, 2, none⟩ u) g a b u := by
  obtain ⟨c0, c1, c2, f0, f1, f2, lt⟩ := h
  exact ⟨by simp [go_sem, c0], by simp [go_sem, c1], by simp [go_sem, c2], by simp [go_sem, f0], by simp [go_sem, f1], by simp [go_sem, f2], by simpa using lt⟩
theorem BoxAt.setFar {w : World} {g : Nat} {a b c : Value} (h : BoxAt w g a b c) (p : Addr) (u : Value) (hp : p.block ≠ g) : BoxAt (w.setCell p u) g a b c := by
  obtain ⟨c0, c1, c2, f0, f1, f2, lt⟩ := h
  refine ⟨?_, ?_, ?_, ?_, ?_, ?_, by simpa using lt⟩
  · rw [World.cell?_setCell_far _ _ _ _ (by simpa using hp)]; exact c0
  · rw [World.cell?_setCell_far _ _ _ _ (by simpa using hp)]; exact c1
  · rw [World.cell?_setCell_far _ _ _ _ (by simpa using hp)]; exact c2
  · rw [World.frozen?_setCell]; exact f0
  · rw [World.frozen?_setCell]; exact f1
  · rw [World.frozen?_setCell]; exact f2

set_option maxHeartbeats 4000000 in
set_option maxRecDepth 100000 in
theorem read_any (s : ByteArray) (w : World) (hs : s.size ≤ 140737488355328) (he : Env w) :
    Calls Tryd.prog 43 #[.string s] w fun e w' => ∃ ad2 cap2, e = .returned (.agg #[.int .i64 (readR s.data.toList).1, .int .i64 (readR s.data.toList).2, .slice ad2 (readL s.data.toList).length cap2]) ∧ (readL s.data.toList).length ≤ cap2 ∧ HopsAt w' ad2 (readL s.data.toList) ∧ (∀ a, ad2 = some a → w.heap.size ≤ a.block) ∧ Gr w w' := by
  obtain ⟨i0, hi, hz0, hz1, hz2⟩ := info_parts infoHop
  have HC : Hid (∀ (x : ByteArray) (c : UInt8) (w' : World), x.size ≤ s.size → Calls Tryd.prog 49 #[.string x, .string ⟨#[c]⟩] w' fun e w2 => ∃ p q f, e = .returned (.tuple #[.string p, .string q, .bool f]) ∧ Idn.cut3 x.data.toList c = (p.data.toList, q.data.toList, f) ∧ p.size ≤ x.size ∧ q.size ≤ x.size ∧ Gr w' w2) := fun x c w' hx => cut_any x c w' (by omega)
  have HP : Hid (∀ (x : ByteArray) (c : UInt8) (w' : World), x.size ≤ s.size → Gr w w' → Calls Tryd.prog 50 #[.string x, .string ⟨#[c]⟩] w' fun e w2 => e = .returned (.tuple #[.int .i64 (pairE x.data.toList c).1, .int .i64 (pairE x.data.toList c).2]) ∧ Gr w' w2) := fun x c w' hx g => readPair_any x c w' (by omega) (he.gr g)
  clear he
  have HRL : Hid (readL s.data.toList = readH 4 (Idn.cut3 s.data.toList 47).2.1 (Idn.cut3 s.data.toList 47).2.2) := rfl
  have HRR : Hid (readR s.data.toList = pairE (Idn.cut3 s.data.toList 47).1 46) := rfl
  go_enter Tryd.func43, Tryd.ntmps43
  go_wp2_with fail
  refine (HC.out s 47 _ (Nat.le_refl _)).mono ?_
  rintro e1 w1 ⟨p1, q1, f1, rfl, hc1, hp1, hq1, hg1⟩
  have HRL2 : Hid (readL s.data.toList = readH 4 q1.data.toList f1) := by show _ = _; rw [HRL.out, hc1]
  have HRR2 : Hid (readR s.data.toList = pairE p1.data.toList 46) := by show _ = _; rw [HRR.out, hc1]
  have hb1 : BoxAt w1 w.heap.size (.int .i64 0) (.int .i64 0) (.slice none 0 0) := (BoxAt.new w _ _ _ 24 _ rfl).gr hg1
  clear hc1 HRL HRR
  go_wp2_with fail
  refine (HP.out p1 46 _ hp1 (by repeat (first | exact Gr.refl _ | refine Gr.alloc ?_ | refine Gr.drew ?_ | refine Gr.trans ?_ (by assumption)))).mono ?_
  rintro e2 w2 ⟨rfl, hg2⟩
  have hb2 := hb1.gr hg2
  have HB2 : Hid (BoxAt w2 w.heap.size (.int .i64 0) (.int .i64 0) (.slice none 0 0)) := hb2
  have HG2 : Hid (Gr w w2) := (by repeat (first | exact Gr.refl _ | refine Gr.alloc ?_ | refine Gr.drew ?_ | refine Gr.trans ?_ (by assumption)))
  have hs2 : w.heap.size < w2.heap.size := hb2.lt
  obtain ⟨⟨r, n⟩, hrn⟩ : ∃ x, pairE p1.data.toList 46 = x := ⟨_, rfl⟩
  rw [hrn]
  simp only
  have HRR3 : Hid (readR s.data.toList = (r, n)) := by show _ = _; rw [HRR2.out, hrn]
  clear hb1 hb2 HRR2 hrn hg1 hg2
  go_wp2
  go_loopw [4, 5] (fun q f wr => ∃ (L : List (Int × Int)) (qb : ByteArray) (fb : Bool) (ad : Option Addr) (cap : Nat), L.length ≤ 4 ∧ q = .string qb ∧ f = .bool fb ∧ qb.size ≤ s.size ∧ BoxAt wr w.heap.size (.int .i64 0) (.int .i64 0) (.slice none 0 0) ∧ BoxAt wr w2.heap.size (.int .i64 r) (.int .i64 n) (.slice ad L.length cap) ∧ wr.ownsRow (w2.heap.size + 1) 55 2 (.slice ad L.length cap) L.length (hopV L) ∧ readL s.data.toList = L ++ readH (4 - L.length) qb.data.toList fb ∧ Gr w wr)
    (fun _ _ wr => 4 - lenCell (wr.cell? ⟨w2.heap.size, 2, none⟩))
  case atStart => exact ⟨[], q1, f1, none, 0, by simp, rfl, rfl, hq1, HB2.out.gr (Gr.refl _).alloc, BoxAt.new _ _ _ _ _ _ rfl, World.ownsRow_nil _ _ _ _, HRL2.out, HG2.out.alloc⟩
  case round =>
    obtain ⟨L, qb, fb, ad, cap, hl4, rfl, rfl, hqs, hbx, hby, hown, hrd, hg⟩ := hrel
    have HRD : Hid (readL s.data.toList = L ++ readH (4 - L.length) qb.data.toList fb) := hrd
    have HBX : Hid (BoxAt wr w.heap.size (.int .i64 0) (.int .i64 0) (.slice none 0 0)) := hbx
    have HBY : Hid (BoxAt wr w2.heap.size (.int .i64 r) (.int .i64 n) (.slice ad L.length cap)) := hby
    obtain ⟨y0, y1, y2, g0, g1, g2, ylt⟩ := hby
    have hlc : lenCell (wr.cell? ⟨w2.heap.size, 2, none⟩) = L.length := by rw [y2]; rfl
    clear hrd hbx HRL2
    by_cases hgo : fb = true ∧ L.length < 4
    · obtain ⟨rfl, h4⟩ := hgo
      have h4i : (L.length : Int) < 4 := by omega
      go_wp2_with fail
      refine (HC.out qb 47 _ hqs).mono ?_
      rintro e3 w3 ⟨p3, q3, f3, rfl, hc3, hp3, hq3, hg3⟩
      have HRD2 : Hid (readL s.data.toList = (L ++ [pairE p3.data.toList 64]) ++ readH (4 - (L.length + 1)) q3.data.toList f3) := by
        show _ = _
        rw [HRD.out, show 4 - L.length = (4 - (L.length + 1)) + 1 by omega, readH, hc3]
        simp
      clear hc3 HRD
      go_wp2_with fail
      refine (HP.out p3 64 _ (by omega) (by repeat (first | exact Gr.refl _ | refine Gr.alloc ?_ | refine Gr.drew ?_ | refine Gr.trans ?_ (by assumption)))).mono ?_
      rintro e4 w4 ⟨rfl, hg4⟩
      have hg5 : Gr wr w4 := (by repeat (first | exact Gr.refl _ | refine Gr.alloc ?_ | refine Gr.drew ?_ | refine Gr.trans ?_ (by assumption)))
      obtain ⟨⟨x1, x2⟩, hx⟩ : ∃ x, pairE p3.data.toList 64 = x := ⟨_, rfl⟩
      rw [hx]
      simp only
      have HRD3 : Hid (readL s.data.toList = (L ++ [(x1, x2)]) ++ readH (4 - (L.length + 1)) q3.data.toList f3) := by show _ = _; rw [HRD2.out, hx]
      have HBX4 : Hid (BoxAt w4 w.heap.size (.int .i64 0) (.int .i64 0) (.slice none 0 0)) := HBX.out.gr hg5
      have HBY4 : Hid (BoxAt w4 w2.heap.size (.int .i64 r) (.int .i64 n) (.slice ad L.length cap)) := HBY.out.gr hg5
      have hown4 := hown.kept hg5.grownBy (own_or _)
      obtain ⟨z0, z1, z2, k0, k1, k2, zlt⟩ := HBY4.out
      have HG4 : Hid (Gr w w4) := (by repeat (first | exact Gr.refl _ | refine Gr.alloc ?_ | refine Gr.drew ?_ | refine Gr.trans ?_ (by assumption)))
      have hm1 : L.length + 1 ≤ maxLen := by unfold maxLen; omega
      have hw4 : w2.heap.size + 1 ≤ w4.heap.size := by omega
      have hnews : ∀ j u, (hopV [(x1, x2)])[j]? = some u → (w4.alloc (.cells #[.int .i64 x1, .int .i64 x2] 55)).cell? ((⟨w4.heap.size, 0, none⟩ : Addr).add j) = some u := (hops_lit1' w4 x1 x2 55).news
      have HN : Hid (∀ j u, (hopV [(x1, x2)])[j]? = some u → (w4.alloc (.cells #[.int .i64 x1, .int .i64 x2] 55)).cell? ((⟨w4.heap.size, 0, none⟩ : Addr).add j) = some u) := hnews
      clear hnews hx HRD2 HBX HBY hg3 hg4 y0 y1 y2 g0 g1 g2 hown
      go_wp2_with (first
        | (at_builtin; refine wpList_append_own _ rfl _ _ 22 rfl (w2.heap.size + 1) 55 i0 (.agg #[.int .i64 0, .int .i64 0]) 2 16 Tryd.underlying22 hi hz0 hz1 hz2 rfl (by decide) _ _ _ rfl (hown4.alloc _) ⟨w4.heap.size, 0, none⟩ 1 1 (hopV [(x1, x2)]) rfl rfl HN.out (hopV_one _) hm1 (by omega) (by simp; omega) ?_)
        | fail)
      intro v' w5 hown5 hgrow _
      have hb5 : Below (w2.heap.size + 1) (w4.alloc (.cells #[.int .i64 x1, .int .i64 x2] 55)) w5 := (Below.refl _ _).grown hgrow (by simp; omega) (fun k hk => (hown4.lt k hk).1)
      have key : ∀ {u : Value}, w5.ownsRow (w2.heap.size + 1) 55 2 u (L.length + 1) (hopV L ++ hopV [(x1, x2)]) → ∃ ad2 cap2, u = .slice ad2 (L.length + 1) cap2 := by
        intro u hu
        rw [← hopV_app] at hu
        obtain ⟨ad2, cap2, h, _⟩ := own_hops (L := L ++ [(x1, x2)]) (by rw [List.length_append]; exact hu)
        rw [List.length_append] at h
        exact ⟨ad2, cap2, h⟩
      obtain ⟨ad5, cap5, rfl⟩ := key hown5
      have HBX5 : Hid (BoxAt w5 w.heap.size (.int .i64 0) (.int .i64 0) (.slice none 0 0)) := (HBX4.out.gr (Gr.refl _).alloc).below hb5 (by omega)
      have HBY5 : Hid (BoxAt w5 w2.heap.size (.int .i64 r) (.int .i64 n) (.slice ad L.length cap)) := (HBY4.out.gr (Gr.refl _).alloc).below hb5 (by omega)
      have HG5 : Hid (Gr w w5) := ⟨(HG4.out.alloc).below.trans (hb5.mono (by omega))⟩
      obtain ⟨v0, v1, v2, j0, j1, j2, vlt⟩ := HBY5.out
      have HO5 : Hid (w5.ownsRow (w2.heap.size + 1) 55 2 (.slice ad5 (L.length + 1) cap5) (L.length + 1) (hopV L ++ hopV [(x1, x2)])) := hown5
      clear hown5 hown4 z0 z1 z2 k0 k1 k2 hgrow key
      go_wp2
      go_roundw
      case rel =>
        refine ⟨L ++ [(x1, x2)], q3, f3, ad5, cap5, by simp; omega, rfl, rfl, by omega, HBX5.out.setFar _ _ (by simp; omega), ?_, ?_, ?_, ?_⟩
        · rw [List.length_append]; exact HBY5.out.set2 _
        · rw [List.length_append, hopV_app]
          exact HO5.out.kept (grownBy_set _ _ _) (Or.inr (fun e => by have := HO5.out.lt _ e; simp at this; omega))
        · rw [List.length_append]; exact HRD3.out
        · exact HG5.out.set _ (by simp; omega) _
      case measure =>
        rw [hlc]
        have : lenCell ((w5.setCell ⟨w2.heap.size, 2, none⟩ (.slice ad5 (L.length + 1) cap5)).cell? ⟨w2.heap.size, 2, none⟩) = L.length + 1 := by rw [(HBY5.out.set2 _).c2]; rfl
        rw [this]; omega
    · have HF : Hid (readL s.data.toList = L) := by
        show _ = _
        rw [HRD.out]
        cases fb with
        | false =>
          have : readH (4 - L.length) qb.data.toList false = [] := by cases 4 - L.length <;> rfl
          rw [this]; simp
        | true =>
          have : L.length = 4 := by
            have : ¬ L.length < 4 := fun h => hgo ⟨rfl, h⟩
            omega
          rw [this]; simp [readH]
      have HH : Hid (HopsAt wr ad L ∧ L.length ≤ cap ∧ ∀ a, ad = some a → w2.heap.size + 1 ≤ a.block) := by
        obtain ⟨ad', cap', h, h1, h2, h3⟩ := own_hops hown
        simp at h
        obtain ⟨rfl, rfl⟩ := h
        exact ⟨h2, h1, h3⟩
      obtain ⟨x0, x1, x2, j0, j1, j2, xlt⟩ := HBX.out
      cases fb with
      | false =>
        clear hown
        go_wp2
        obtain ⟨hia, hcp, hfr⟩ := HH.out
        rw [HRR3.out, HF.out]
        exact bodyPost_ret (v := .agg #[.int .i64 r, .int .i64 n, .slice ad L.length cap]) (by simp [results, Tryd.results43, go_sem, x0, x1, x2]) rfl ⟨ad, cap, rfl, hcp, (by (repeat' (first | with_reducible exact hia | with_reducible refine HopsAt.set ?_ _ _ ?_ | with_reducible refine HopsAt.alloc ?_ | with_reducible refine HopsAt.drew ?_)) <;> (intro a e; have := hfr a e; simp at this ⊢; omega)), fun a e => by have := hfr a e; omega, (by (repeat' (first | with_reducible exact Gr.refl _ | with_reducible refine Gr.set ?_ _ ?_ _ | with_reducible refine Gr.alloc ?_ | with_reducible refine Gr.drew ?_ | with_reducible refine Gr.trans ?_ (by assumption))) <;> (first | (simp; done) | (simp; omega) | omega))⟩
      | true =>
        have h4 : ¬ ((L.length : Int) < 4) := by
          have : ¬ L.length < 4 := fun h => hgo ⟨rfl, h⟩
          omega
        clear hown
        go_wp2
        obtain ⟨hia, hcp, hfr⟩ := HH.out
        rw [HRR3.out, HF.out]
        exact bodyPost_ret (v := .agg #[.int .i64 r, .int .i64 n, .slice ad L.length cap]) (by simp [results, Tryd.results43, go_sem, x0, x1, x2]) rfl ⟨ad, cap, rfl, hcp, (by (repeat' (first | with_reducible exact hia | with_reducible refine HopsAt.set ?_ _ _ ?_ | with_reducible refine HopsAt.alloc ?_ | with_reducible refine HopsAt.drew ?_)) <;> (intro a e; have := hfr a e; simp at this ⊢; omega)), fun a e => by have := hfr a e; omega, (by (repeat' (first | with_reducible exact Gr.refl _ | with_reducible refine Gr.set ?_ _ ?_ _ | with_reducible refine Gr.alloc ?_ | with_reducible refine Gr.drew ?_ | with_reducible refine Gr.trans ?_ (by assumption))) <;> (first | (simp; done) | (simp; omega) | omega))⟩
end Go.Proofs.YtmidlcipbpchgaaDoor
