/- Parts of these proofs, laid together. -/
import Derived.Test.YtcmbppjfpdkblaaGreatDoorGC
import Derived.Test.YtcmbppjfpdkblaaGreatDoorShelf
import Derived.BigRegion
import Derived.WalkSmall
import Derived.Test.YtcmbppjfpdkblaaGreatDoorGB
import Derived.Test.YtcmbppjfpdkblaaGreatDoorGI
import Derived.Deep.RegionHeld3
/- What the library's tables and sentinels are while the laws run; Itoa, Atoi, Cut by the library's contracts. -/
namespace Go.Proofs.YtcmbppjfpdkblaaGreatDoor
open Go.RowKit

/- the table of powers and the two sentinels lie there -/
structure Env (w : World) : Prop where
  tab : Lib.TabIs Tryz.prog w "internal/strconv.uint64pow10" .u64 Lib.pow10Tab
  syn : ∃ t p, w.cell? ⟨6, 0, none⟩ = some (.iface t p)
  rng : ∃ t p, w.cell? ⟨7, 0, none⟩ = some (.iface t p)
theorem Env.gr {w w' : World} (h : Env w) (g : Gr w w') : Env w' := by
  obtain ⟨ht, ⟨t1, p1, h1⟩, ⟨t2, p2, h2⟩⟩ := h
  refine ⟨?_, ⟨t1, p1, g.keep h1⟩, ⟨t2, p2, g.keep h2⟩⟩
  have hb : 7 < w.heap.size := World.block_lt_of_cell? w _ h2
  exact var?_below g.below (by kernel_rfl : Tryz.prog.globalNamed "internal/strconv.uint64pow10" = some 2) (by omega) ht

theorem gr_grow (w : World) (k : Nat) (obs : Array Obj) : Gr w (Sort.grow (w.drewN k) obs) := by
  refine ⟨⟨rfl, rfl, rfl, ?_, ?_⟩⟩
  · simp [Sort.grow, World.drewN]
  · intro j hj
    simp [Sort.grow, World.drewN, Array.getElem?_append, hj]

theorem itoa_any (n : Nat) (w : World) (hn : n ≤ 9223372036854775807) (he : Env w) : Calls Tryz.prog 28 #[.int .i64 n] w fun e w' => e = .returned (.string ⟨(Lib.decDigits n).toArray⟩) ∧ Gr w w' := by
  refine (Tryz.strconv_Itoa n (by omega) (by omega) w he.tab).mono ?_
  rintro e w' ⟨rfl, k, obs, rfl⟩
  refine ⟨?_, gr_grow w k obs⟩
  have : Lib.itoa (n : Int) = Lib.decDigits n := by
    unfold Lib.itoa
    rw [if_neg (by omega)]; rfl
  rw [this]

def numE (l : List UInt8) : Int := match Lib.atoiAll l with
  | .ok v => v
  | _ => -1

set_option maxHeartbeats 1000000 in
theorem readNumber_any (s : ByteArray) (w : World) (hs : s.size ≤ 140737488355328) (he : Env w) : Calls Tryz.prog 110 #[.string s] w fun e w' => e = .returned (.int .i64 (numE s.data.toList)) ∧ Gr w w' := by
  obtain ⟨_, ⟨t1, p1, h1⟩, ⟨t2, p2, h2⟩⟩ := he
  cases hr : Lib.atoiAll s.data.toList with
  | ok v =>
    have HA : Hid (Calls Tryz.prog 112 #[.string s] w fun e w' => e = .returned (.tuple #[.int .i64 v, .nilIface]) ∧ Gr w w') := by
      refine (Tryz.strconv_Atoi_ok s (by omega) v hr w).mono ?_
      rintro e w' ⟨rfl, rfl | ⟨t, rfl⟩⟩
      · exact ⟨rfl, Gr.refl _⟩
      · exact ⟨rfl, ⟨⟨rfl, rfl, rfl, by rw [Lib.bytesWorld_size]; omega, fun k hk => Lib.bytesWorld_at_old w 5 t k hk⟩⟩⟩
    have HN : Hid (numE s.data.toList = v) := by show _ = _; simp [numE, hr]
    clear hr
    go_enter Tryz.func110, Tryz.ntmps110
    go_wp2_with fail
    refine HA.out.mono ?_
    rintro e1 w1 ⟨rfl, hg1⟩
    go_wp2
    go_ret
    exact ⟨by rw [HN.out]; rfl, hg1⟩
  | «syntax» =>
    have HA : Hid (Calls Tryz.prog 112 #[.string s] w fun e w' => ∃ N, e = .returned (.tuple #[.int .i64 0, .iface 162 (.pointer (some ⟨N, 0, none⟩))]) ∧ Gr w w') := by
      refine (Tryz.strconv_Atoi_syntax s (by omega) hr _ w h1 (Or.inr ⟨_, _, rfl⟩)).mono ?_
      rintro e w' ⟨N, rfl, _, _, hb⟩
      exact ⟨N, rfl, ⟨hb⟩⟩
    have HN : Hid (numE s.data.toList = -1) := by show _ = _; simp [numE, hr]
    clear hr
    go_enter Tryz.func110, Tryz.ntmps110
    go_wp2_with fail
    refine HA.out.mono ?_
    rintro e1 w1 ⟨N, rfl, hg1⟩
    go_wp2
    go_ret
    exact ⟨by rw [HN.out]; rfl, hg1⟩
  | range =>
    have HA : Hid (Calls Tryz.prog 112 #[.string s] w fun e w' => ∃ N, e = .returned (.tuple #[.int .i64 (Lib.atoiSat s.data.toList), .iface 162 (.pointer (some ⟨N, 0, none⟩))]) ∧ Gr w w') := by
      refine (Tryz.strconv_Atoi_range s (by omega) hr _ w h2 (Or.inr ⟨_, _, rfl⟩)).mono ?_
      rintro e w' ⟨N, rfl, _, _, hb⟩
      exact ⟨N, rfl, ⟨hb⟩⟩
    have HN : Hid (numE s.data.toList = -1) := by show _ = _; simp [numE, hr]
    clear hr
    go_enter Tryz.func110, Tryz.ntmps110
    go_wp2_with fail
    refine HA.out.mono ?_
    rintro e1 w1 ⟨N, rfl, hg1⟩
    go_wp2
    go_ret
    exact ⟨by rw [HN.out]; rfl, hg1⟩
end Go.Proofs.YtcmbppjfpdkblaaGreatDoor
/- strings.Cut at one byte; readPair. -/
namespace Go.Proofs.YtcmbppjfpdkblaaGreatDoor
open Go.RowKit

theorem ext_list (s : ByteArray) (a b : Nat) (h : a ≤ b) : (s.extract a b).data.toList = (s.data.toList.take b).drop a := by
  simp [ByteArray.data_extract, List.take_drop]
  rw [show a + (b - a) = b by omega]

set_option maxHeartbeats 1000000 in
set_option maxRecDepth 100000 in
theorem scut_any (s : ByteArray) (c : UInt8) (w : World) (hs : s.size ≤ 140737488355328) :
    Calls Tryz.prog 109 #[.string s, .string ⟨#[c]⟩] w fun e w' => ∃ x y f, e = .returned (.tuple #[.string x, .string y, .bool f]) ∧ Idn.cut3 s.data.toList c = (x.data.toList, y.data.toList, f) ∧ x.size ≤ s.size ∧ y.size ≤ s.size ∧ Gr w w' := by
  have HX : Hid (Calls Tryz.prog 111 #[.string s, .string ⟨#[c]⟩] w fun e w' => e = .returned (.int .i64 (Lib.indexByte s.data.toList c)) ∧ w' = w) := Tryz.stringslite_Index_one s c w
  rcases Idn.index_cut s.data.toList c with ⟨h1, h2⟩ | ⟨i, h1, h2, h3⟩
  · rw [h1] at HX
    have HC : Hid (Idn.cut3 s.data.toList c = (s.data.toList, [], false)) := h2
    clear h1 h2
    go_enter Tryz.func109, Tryz.ntmps109
    go_wp2_with fail
    refine HX.out.mono ?_
    rintro e1 w1 ⟨rfl, hw1⟩; obtain rfl := hw1.symm
    go_wp2
    go_ret3
    exact ⟨_, _, _, rfl, HC.out, Nat.le_refl _, Nat.zero_le _, Gr.refl _⟩
  · rw [h1] at HX
    have hi : i < s.size := by simpa using h2
    have HC : Hid (Idn.cut3 s.data.toList c = ((s.extract 0 i).data.toList, (s.extract (i + 1) s.size).data.toList, true)) := by
      show _ = _
      rw [h3, ext_list s 0 i (by omega), ext_list s (i + 1) s.size (by omega), List.drop_zero, show s.data.toList.take s.size = s.data.toList from List.take_of_length_le (by show s.data.toList.length ≤ s.data.size; simp)]
    have hone : (⟨#[c]⟩ : ByteArray).size = 1 := rfl
    have b0 : (0 : Int) ≤ (i : Int) := by omega
    have b1 : (i : Int) ≤ (s.size : Int) := by omega
    have b2 : (i : Int) + 1 ≤ (s.size : Int) := by omega
    have b3 : (0 : Int) ≤ (i : Int) + 1 := by omega
    have b4 : ((i : Int) + 1).toNat = i + 1 := by omega
    clear h1 h2 h3
    go_enter Tryz.func109, Tryz.ntmps109
    go_wp2_with fail
    refine HX.out.mono ?_
    rintro e1 w1 ⟨rfl, hw1⟩; obtain rfl := hw1.symm
    go_wp2
    go_region
    go_wp2
    go_ret3
    exact ⟨_, _, _, rfl, HC.out, by simp; omega, by simp, (Gr.refl _).drew⟩

set_option maxHeartbeats 1000000 in
theorem cut_any (s : ByteArray) (c : UInt8) (w : World) (hs : s.size ≤ 140737488355328) :
    Calls Tryz.prog 105 #[.string s, .string ⟨#[c]⟩] w fun e w' => ∃ x y f, e = .returned (.tuple #[.string x, .string y, .bool f]) ∧ Idn.cut3 s.data.toList c = (x.data.toList, y.data.toList, f) ∧ x.size ≤ s.size ∧ y.size ≤ s.size ∧ Gr w w' := by
  have HC : Hid (Calls Tryz.prog 109 #[.string s, .string ⟨#[c]⟩] w fun e w' => ∃ x y f, e = .returned (.tuple #[.string x, .string y, .bool f]) ∧ Idn.cut3 s.data.toList c = (x.data.toList, y.data.toList, f) ∧ x.size ≤ s.size ∧ y.size ≤ s.size ∧ Gr w w') := scut_any s c w hs
  go_enter Tryz.func105, Tryz.ntmps105
  go_wp2_with fail
  refine HC.out.mono ?_
  rintro e1 w1 ⟨x, y, f, rfl, hc, hx, hy, hg⟩
  have HX : Hid (Idn.cut3 s.data.toList c = (x.data.toList, y.data.toList, f)) := hc
  clear hc
  go_wp2
  go_ret3
  exact ⟨x, y, f, rfl, HX.out, hx, hy, hg⟩

def pairE (l : List UInt8) (c : UInt8) : Int × Int := (numE (Idn.cut3 l c).1, numE (Idn.cut3 l c).2.1)

set_option maxHeartbeats 1000000 in
theorem readPair_any (s : ByteArray) (c : UInt8) (w : World) (hs : s.size ≤ 140737488355328) (he : Env w) :
    Calls Tryz.prog 106 #[.string s, .string ⟨#[c]⟩] w fun e w' => e = .returned (.tuple #[.int .i64 (pairE s.data.toList c).1, .int .i64 (pairE s.data.toList c).2]) ∧ Gr w w' := by
  have HC : Hid (Calls Tryz.prog 105 #[.string s, .string ⟨#[c]⟩] w fun e w' => ∃ x y f, e = .returned (.tuple #[.string x, .string y, .bool f]) ∧ Idn.cut3 s.data.toList c = (x.data.toList, y.data.toList, f) ∧ x.size ≤ s.size ∧ y.size ≤ s.size ∧ Gr w w') := cut_any s c w hs
  have HN : Hid (∀ (x : ByteArray) (w' : World), x.size ≤ s.size → Gr w w' → Calls Tryz.prog 110 #[.string x] w' fun e w2 => e = .returned (.int .i64 (numE x.data.toList)) ∧ Gr w' w2) := fun x w' hx g => readNumber_any x w' (by omega) (he.gr g)
  have HP : Hid (pairE s.data.toList c = (numE (Idn.cut3 s.data.toList c).1, numE (Idn.cut3 s.data.toList c).2.1)) := rfl
  clear he
  go_enter Tryz.func106, Tryz.ntmps106
  go_wp2_with fail
  refine HC.out.mono ?_
  rintro e1 w1 ⟨x, y, f, rfl, hc, hx, hy, hg⟩
  have HQ : Hid (pairE s.data.toList c = (numE x.data.toList, numE y.data.toList)) := by show _ = _; rw [HP.out, hc]
  clear hc
  go_wp2_with fail
  refine (HN.out _ _ hx (by repeat (first | exact Gr.refl _ | refine Gr.alloc ?_ | refine Gr.drew ?_ | refine Gr.trans ?_ (by assumption)))).mono ?_
  rintro e2 w2 ⟨rfl, hg2⟩
  go_wp2_with fail
  refine (HN.out _ _ hy (by repeat (first | exact Gr.refl _ | refine Gr.alloc ?_ | refine Gr.drew ?_ | refine Gr.trans ?_ (by assumption)))).mono ?_
  rintro e3 w3 ⟨rfl, hg3⟩
  go_wp2
  go_ret2
  exact ⟨by rw [HQ.out]; rfl, (by repeat (first | exact Gr.refl _ | refine Gr.alloc ?_ | refine Gr.drew ?_ | refine Gr.trans ?_ (by assumption)))⟩
end Go.Proofs.YtcmbppjfpdkblaaGreatDoor
/- read: the only id whose text a text could be. -/
namespace Go.Proofs.YtcmbppjfpdkblaaGreatDoor
open Go.RowKit

def readH : Nat → List UInt8 → Bool → List (Int × Int)
  | 0, _, _ => []
  | _ + 1, _, false => []
  | k + 1, l, true => pairE (Idn.cut3 l 47).1 64 :: readH k (Idn.cut3 l 47).2.1 (Idn.cut3 l 47).2.2
def readL (l : List UInt8) : List (Int × Int) := readH 4 (Idn.cut3 l 47).2.1 (Idn.cut3 l 47).2.2
def readR (l : List UInt8) : Int × Int := pairE (Idn.cut3 l 47).1 46
theorem readH_len (k : Nat) : ∀ (l : List UInt8) (m : Bool), (readH k l m).length ≤ k := by
  induction k with
  | zero => intro l m; simp [readH]
  | succ k ih =>
    intro l m
    cases m with
    | false => simp [readH]
    | true => rw [readH, List.length_cons]; have := ih (Idn.cut3 l 47).2.1 (Idn.cut3 l 47).2.2; omega

def lenCell : Option Value → Nat
  | some (.slice _ n _) => n
  | _ => 0
theorem hops_lit1' (w : World) (a b : Int) (t : TypeId) : HopsAt (w.alloc (.cells #[.int .i64 a, .int .i64 b] t)) (some ⟨w.heap.size, 0, none⟩) [(a, b)] := by
  intro j hj
  obtain rfl : j = 0 := by simpa using hj
  exact ⟨_, _, rfl, by simp, by simp, by simp⟩
theorem grownBy_set (w : World) (p : Addr) (u : Value) : w.grownBy (w.setCell p u) (some p.block) :=
  ⟨rfl, rfl, rfl, by simp [World.setCell], fun k _ hk => Below.heap_setCell _ _ _ _ (fun e => hk (by rw [e]))⟩
theorem BoxAt.below {w w' : World} {g B : Nat} {a b c : Value} (h : BoxAt w g a b c) (k : Below B w w') (hB : g < B) : BoxAt w' g a b c :=
  ⟨(k.cell (p := ⟨g, 0, none⟩) hB).trans h.c0, (k.cell (p := ⟨g, 1, none⟩) hB).trans h.c1, (k.cell (p := ⟨g, 2, none⟩) hB).trans h.c2, (k.frozen (p := ⟨g, 0, none⟩) hB).trans h.f0, (k.frozen (p := ⟨g, 1, none⟩) hB).trans h.f1, (k.frozen (p := ⟨g, 2, none⟩) hB).trans h.f2, Nat.lt_of_lt_of_le h.lt k.size⟩
theorem BoxAt.set2 {w : World} {g : Nat} {a b c : Value} (h : BoxAt w g a b c) (u : Value) : BoxAt (w.setCell ⟨g, 2, none⟩ u) g a b u := by
  obtain ⟨c0, c1, c2, f0, f1, f2, lt⟩ := h
  exact ⟨by simp [go_sem, c0], by simp [go_sem, c1], by simp [go_sem, c2], by simp [go_sem, f0], by simp [go_sem, f1], by simp [go_sem, f2], by simpa using lt⟩
theorem BoxAt.setFar {w : World} {g : Nat} {a b c : Value} (h : BoxAt w g a b c) (p : Addr) (u : Value) (hp : p.block ≠ g) : BoxAt (w.setCell p u) g a b c := by
  obtain ⟨c0, c1, c2, f0, f1, f2, lt⟩ := h
  refine ⟨?_, ?_, ?_, ?_, ?_, ?_, by simpa using lt⟩
  · rw [World.cell?_setCell_far _ _ _ _ (by simpa using hp)]; exact c0
  · rw [World.cell?_setCell_far _ _ _ _ (by simpa using hp)]; exact c1
  · rw [World.cell?_setCell_far _ _ _ _ (by simpa using hp)]; exact c2
  · rw [World.frozen?_setCell]; exact f0
  · rw [World.frozen?_setCell]; exact f1
  · rw [World.frozen?_setCell]; exact f2

set_option maxHeartbeats 4000000 in
set_option maxRecDepth 100000 in
theorem read_any (s : ByteArray) (w : World) (hs : s.size ≤ 140737488355328) (he : Env w) :
    Calls Tryz.prog 97 #[.string s] w fun e w' => ∃ ad2 cap2, e = .returned (.agg #[.int .i64 (readR s.data.toList).1, .int .i64 (readR s.data.toList).2, .slice ad2 (readL s.data.toList).length cap2]) ∧ (readL s.data.toList).length ≤ cap2 ∧ HopsAt w' ad2 (readL s.data.toList) ∧ (∀ a, ad2 = some a → w.heap.size ≤ a.block) ∧ Gr w w' := by
  obtain ⟨i0, hi, hz0, hz1, hz2⟩ := info_parts infoHop
  have HC : Hid (∀ (x : ByteArray) (c : UInt8) (w' : World), x.size ≤ s.size → Calls Tryz.prog 105 #[.string x, .string ⟨#[c]⟩] w' fun e w2 => ∃ p q f, e = .returned (.tuple #[.string p, .string q, .bool f]) ∧ Idn.cut3 x.data.toList c = (p.data.toList, q.data.toList, f) ∧ p.size ≤ x.size ∧ q.size ≤ x.size ∧ Gr w' w2) := fun x c w' hx => cut_any x c w' (by omega)
  have HP : Hid (∀ (x : ByteArray) (c : UInt8) (w' : World), x.size ≤ s.size → Gr w w' → Calls Tryz.prog 106 #[.string x, .string ⟨#[c]⟩] w' fun e w2 => e = .returned (.tuple #[.int .i64 (pairE x.data.toList c).1, .int .i64 (pairE x.data.toList c).2]) ∧ Gr w' w2) := fun x c w' hx g => readPair_any x c w' (by omega) (he.gr g)
  clear he
  have HRL : Hid (readL s.data.toList = readH 4 (Idn.cut3 s.data.toList 47).2.1 (Idn.cut3 s.data.toList 47).2.2) := rfl
  have HRR : Hid (readR s.data.toList = pairE (Idn.cut3 s.data.toList 47).1 46) := rfl
  go_enter Tryz.func97, Tryz.ntmps97
  go_wp2_with fail
  refine (HC.out s 47 _ (Nat.le_refl _)).mono ?_
  rintro e1 w1 ⟨p1, q1, f1, rfl, hc1, hp1, hq1, hg1⟩
  have HRL2 : Hid (readL s.data.toList = readH 4 q1.data.toList f1) := by show _ = _; rw [HRL.out, hc1]
  have HRR2 : Hid (readR s.data.toList = pairE p1.data.toList 46) := by show _ = _; rw [HRR.out, hc1]
  have hb1 : BoxAt w1 w.heap.size (.int .i64 0) (.int .i64 0) (.slice none 0 0) := (BoxAt.new w _ _ _ 24 _ rfl).gr hg1
  clear hc1 HRL HRR
  go_wp2_with fail
  refine (HP.out p1 46 _ hp1 (by repeat (first | exact Gr.refl _ | refine Gr.alloc ?_ | refine Gr.drew ?_ | refine Gr.trans ?_ (by assumption)))).mono ?_
  rintro e2 w2 ⟨rfl, hg2⟩
  have hb2 := hb1.gr hg2
  have HB2 : Hid (BoxAt w2 w.heap.size (.int .i64 0) (.int .i64 0) (.slice none 0 0)) := hb2
  have HG2 : Hid (Gr w w2) := (by repeat (first | exact Gr.refl _ | refine Gr.alloc ?_ | refine Gr.drew ?_ | refine Gr.trans ?_ (by assumption)))
  have hs2 : w.heap.size < w2.heap.size := hb2.lt
  obtain ⟨⟨r, n⟩, hrn⟩ : ∃ x, pairE p1.data.toList 46 = x := ⟨_, rfl⟩
  rw [hrn]
  simp only
  have HRR3 : Hid (readR s.data.toList = (r, n)) := by show _ = _; rw [HRR2.out, hrn]
  clear hb1 hb2 HRR2 hrn hg1 hg2
  go_wp2
  go_loopw [4, 5] (fun q f wr => ∃ (L : List (Int × Int)) (qb : ByteArray) (fb : Bool) (ad : Option Addr) (cap : Nat), L.length ≤ 4 ∧ q = .string qb ∧ f = .bool fb ∧ qb.size ≤ s.size ∧ BoxAt wr w.heap.size (.int .i64 0) (.int .i64 0) (.slice none 0 0) ∧ BoxAt wr w2.heap.size (.int .i64 r) (.int .i64 n) (.slice ad L.length cap) ∧ wr.ownsRow (w2.heap.size + 1) 56 2 (.slice ad L.length cap) L.length (hopV L) ∧ readL s.data.toList = L ++ readH (4 - L.length) qb.data.toList fb ∧ Gr w wr)
    (fun _ _ wr => 4 - lenCell (wr.cell? ⟨w2.heap.size, 2, none⟩))
  case atStart => exact ⟨[], q1, f1, none, 0, by simp, rfl, rfl, hq1, HB2.out.gr (Gr.refl _).alloc, BoxAt.new _ _ _ _ _ _ rfl, World.ownsRow_nil _ _ _ _, HRL2.out, HG2.out.alloc⟩
  case round =>
    obtain ⟨L, qb, fb, ad, cap, hl4, rfl, rfl, hqs, hbx, hby, hown, hrd, hg⟩ := hrel
    have HRD : Hid (readL s.data.toList = L ++ readH (4 - L.length) qb.data.toList fb) := hrd
    have HBX : Hid (BoxAt wr w.heap.size (.int .i64 0) (.int .i64 0) (.slice none 0 0)) := hbx
    have HBY : Hid (BoxAt wr w2.heap.size (.int .i64 r) (.int .i64 n) (.slice ad L.length cap)) := hby
    obtain ⟨y0, y1, y2, g0, g1, g2, ylt⟩ := hby
    have hlc : lenCell (wr.cell? ⟨w2.heap.size, 2, none⟩) = L.length := by rw [y2]; rfl
    clear hrd hbx HRL2
    by_cases hgo : fb = true ∧ L.length < 4
    · obtain ⟨rfl, h4⟩ := hgo
      have h4i : (L.length : Int) < 4 := by omega
      go_wp2_with fail
      refine (HC.out qb 47 _ hqs).mono ?_
      rintro e3 w3 ⟨p3, q3, f3, rfl, hc3, hp3, hq3, hg3⟩
      have HRD2 : Hid (readL s.data.toList = (L ++ [pairE p3.data.toList 64]) ++ readH (4 - (L.length + 1)) q3.data.toList f3) := by
        show _ = _
        rw [HRD.out, show 4 - L.length = (4 - (L.length + 1)) + 1 by omega, readH, hc3]
        simp
      clear hc3 HRD
      go_wp2_with fail
      refine (HP.out p3 64 _ (by omega) (by repeat (first | exact Gr.refl _ | refine Gr.alloc ?_ | refine Gr.drew ?_ | refine Gr.trans ?_ (by assumption)))).mono ?_
      rintro e4 w4 ⟨rfl, hg4⟩
      have hg5 : Gr wr w4 := (by repeat (first | exact Gr.refl _ | refine Gr.alloc ?_ | refine Gr.drew ?_ | refine Gr.trans ?_ (by assumption)))
      obtain ⟨⟨x1, x2⟩, hx⟩ : ∃ x, pairE p3.data.toList 64 = x := ⟨_, rfl⟩
      rw [hx]
      simp only
      have HRD3 : Hid (readL s.data.toList = (L ++ [(x1, x2)]) ++ readH (4 - (L.length + 1)) q3.data.toList f3) := by show _ = _; rw [HRD2.out, hx]
      have HBX4 : Hid (BoxAt w4 w.heap.size (.int .i64 0) (.int .i64 0) (.slice none 0 0)) := HBX.out.gr hg5
      have HBY4 : Hid (BoxAt w4 w2.heap.size (.int .i64 r) (.int .i64 n) (.slice ad L.length cap)) := HBY.out.gr hg5
      have hown4 := hown.kept hg5.grownBy (own_or _)
      obtain ⟨z0, z1, z2, k0, k1, k2, zlt⟩ := HBY4.out
      have HG4 : Hid (Gr w w4) := (by repeat (first | exact Gr.refl _ | refine Gr.alloc ?_ | refine Gr.drew ?_ | refine Gr.trans ?_ (by assumption)))
      have hm1 : L.length + 1 ≤ maxLen := by unfold maxLen; omega
      have hw4 : w2.heap.size + 1 ≤ w4.heap.size := by omega
      have hnews : ∀ j u, (hopV [(x1, x2)])[j]? = some u → (w4.alloc (.cells #[.int .i64 x1, .int .i64 x2] 56)).cell? ((⟨w4.heap.size, 0, none⟩ : Addr).add j) = some u := (hops_lit1' w4 x1 x2 56).news
      have HN : Hid (∀ j u, (hopV [(x1, x2)])[j]? = some u → (w4.alloc (.cells #[.int .i64 x1, .int .i64 x2] 56)).cell? ((⟨w4.heap.size, 0, none⟩ : Addr).add j) = some u) := hnews
      clear hnews hx HRD2 HBX HBY hg3 hg4 y0 y1 y2 g0 g1 g2 hown
      go_wp2_with (first
        | (at_builtin; refine wpList_append_own _ rfl _ _ 22 rfl (w2.heap.size + 1) 56 i0 (.agg #[.int .i64 0, .int .i64 0]) 2 16 Tryz.underlying22 hi hz0 hz1 hz2 rfl (by decide) _ _ _ rfl (hown4.alloc _) ⟨w4.heap.size, 0, none⟩ 1 1 (hopV [(x1, x2)]) rfl rfl HN.out (hopV_one _) hm1 (by omega) (by simp; omega) ?_)
        | fail)
      intro v' w5 hown5 hgrow _
      have hb5 : Below (w2.heap.size + 1) (w4.alloc (.cells #[.int .i64 x1, .int .i64 x2] 56)) w5 := (Below.refl _ _).grown hgrow (by simp; omega) (fun k hk => (hown4.lt k hk).1)
      have key : ∀ {u : Value}, w5.ownsRow (w2.heap.size + 1) 56 2 u (L.length + 1) (hopV L ++ hopV [(x1, x2)]) → ∃ ad2 cap2, u = .slice ad2 (L.length + 1) cap2 := by
        intro u hu
        rw [← hopV_app] at hu
        obtain ⟨ad2, cap2, h, _⟩ := own_hops (L := L ++ [(x1, x2)]) (by rw [List.length_append]; exact hu)
        rw [List.length_append] at h
        exact ⟨ad2, cap2, h⟩
      obtain ⟨ad5, cap5, rfl⟩ := key hown5
      have HBX5 : Hid (BoxAt w5 w.heap.size (.int .i64 0) (.int .i64 0) (.slice none 0 0)) := (HBX4.out.gr (Gr.refl _).alloc).below hb5 (by omega)
      have HBY5 : Hid (BoxAt w5 w2.heap.size (.int .i64 r) (.int .i64 n) (.slice ad L.length cap)) := (HBY4.out.gr (Gr.refl _).alloc).below hb5 (by omega)
      have HG5 : Hid (Gr w w5) := ⟨(HG4.out.alloc).below.trans (hb5.mono (by omega))⟩
      obtain ⟨v0, v1, v2, j0, j1, j2, vlt⟩ := HBY5.out
      have HO5 : Hid (w5.ownsRow (w2.heap.size + 1) 56 2 (.slice ad5 (L.length + 1) cap5) (L.length + 1) (hopV L ++ hopV [(x1, x2)])) := hown5
      clear hown5 hown4 z0 z1 z2 k0 k1 k2 hgrow key
      go_wp2
      go_roundw
      case rel =>
        refine ⟨L ++ [(x1, x2)], q3, f3, ad5, cap5, by simp; omega, rfl, rfl, by omega, HBX5.out.setFar _ _ (by simp; omega), ?_, ?_, ?_, ?_⟩
        · rw [List.length_append]; exact HBY5.out.set2 _
        · rw [List.length_append, hopV_app]
          exact HO5.out.kept (grownBy_set _ _ _) (Or.inr (fun e => by have := HO5.out.lt _ e; simp at this; omega))
        · rw [List.length_append]; exact HRD3.out
        · exact HG5.out.set _ (by simp; omega) _
      case measure =>
        rw [hlc]
        have : lenCell ((w5.setCell ⟨w2.heap.size, 2, none⟩ (.slice ad5 (L.length + 1) cap5)).cell? ⟨w2.heap.size, 2, none⟩) = L.length + 1 := by rw [(HBY5.out.set2 _).c2]; rfl
        rw [this]; omega
    · have HF : Hid (readL s.data.toList = L) := by
        show _ = _
        rw [HRD.out]
        cases fb with
        | false =>
          have : readH (4 - L.length) qb.data.toList false = [] := by cases 4 - L.length <;> rfl
          rw [this]; simp
        | true =>
          have : L.length = 4 := by
            have : ¬ L.length < 4 := fun h => hgo ⟨rfl, h⟩
            omega
          rw [this]; simp [readH]
      have HH : Hid (HopsAt wr ad L ∧ L.length ≤ cap ∧ ∀ a, ad = some a → w2.heap.size + 1 ≤ a.block) := by
        obtain ⟨ad', cap', h, h1, h2, h3⟩ := own_hops hown
        simp at h
        obtain ⟨rfl, rfl⟩ := h
        exact ⟨h2, h1, h3⟩
      obtain ⟨x0, x1, x2, j0, j1, j2, xlt⟩ := HBX.out
      cases fb with
      | false =>
        clear hown
        go_wp2
        obtain ⟨hia, hcp, hfr⟩ := HH.out
        rw [HRR3.out, HF.out]
        exact bodyPost_ret (v := .agg #[.int .i64 r, .int .i64 n, .slice ad L.length cap]) (by simp [results, Tryz.results97, go_sem, x0, x1, x2]) rfl ⟨ad, cap, rfl, hcp, (by (repeat' (first | with_reducible exact hia | with_reducible refine HopsAt.set ?_ _ _ ?_ | with_reducible refine HopsAt.alloc ?_ | with_reducible refine HopsAt.drew ?_)) <;> (intro a e; have := hfr a e; simp at this ⊢; omega)), fun a e => by have := hfr a e; omega, (by (repeat' (first | with_reducible exact Gr.refl _ | with_reducible refine Gr.set ?_ _ ?_ _ | with_reducible refine Gr.alloc ?_ | with_reducible refine Gr.drew ?_ | with_reducible refine Gr.trans ?_ (by assumption))) <;> (first | (simp; done) | (simp; omega) | omega))⟩
      | true =>
        have h4 : ¬ ((L.length : Int) < 4) := by
          have : ¬ L.length < 4 := fun h => hgo ⟨rfl, h⟩
          omega
        clear hown
        go_wp2
        obtain ⟨hia, hcp, hfr⟩ := HH.out
        rw [HRR3.out, HF.out]
        exact bodyPost_ret (v := .agg #[.int .i64 r, .int .i64 n, .slice ad L.length cap]) (by simp [results, Tryz.results97, go_sem, x0, x1, x2]) rfl ⟨ad, cap, rfl, hcp, (by (repeat' (first | with_reducible exact hia | with_reducible refine HopsAt.set ?_ _ _ ?_ | with_reducible refine HopsAt.alloc ?_ | with_reducible refine HopsAt.drew ?_)) <;> (intro a e; have := hfr a e; simp at this ⊢; omega)), fun a e => by have := hfr a e; omega, (by (repeat' (first | with_reducible exact Gr.refl _ | with_reducible refine Gr.set ?_ _ ?_ _ | with_reducible refine Gr.alloc ?_ | with_reducible refine Gr.drew ?_ | with_reducible refine Gr.trans ?_ (by assumption))) <;> (first | (simp; done) | (simp; omega) | omega))⟩
end Go.Proofs.YtcmbppjfpdkblaaGreatDoor
/- Show: the text of an id. -/
namespace Go.Proofs.YtcmbppjfpdkblaaGreatDoor
open Go.RowKit

def digsT (n : Int) : List UInt8 := Lib.decDigits n.toNat

theorem may_root {r n : Int} {L : List (Int × Int)} (h : Idn.mayB r n L = true) : 0 ≤ r ∧ r < 16 ∧ 1 ≤ n ∧ n ≤ 999999 ∧ L.length ≤ 4 ∧ ∀ x ∈ L, 0 ≤ x.1 ∧ x.1 < 8 ∧ 0 ≤ x.2 ∧ x.2 < 16 := by
  rw [Idn.may_hops] at h
  simp only [Bool.and_eq_true, decide_eq_true_eq] at h
  obtain ⟨⟨⟨⟨⟨h1, h2⟩, h3⟩, h4⟩, h5⟩, h6⟩ := h
  refine ⟨h4, h5, h1, h2, h3, ?_⟩
  have key : ∀ (l : List (Int × Int)) (seen : List Int), Idn.hopsB r seen l = true → ∀ x ∈ l, 0 ≤ x.1 ∧ x.1 < 8 ∧ 0 ≤ x.2 ∧ x.2 < 16 := by
    intro l
    induction l with
    | nil => intro _ _ x hx; simp at hx
    | cons a t ih =>
      intro seen hb x hx
      rw [Idn.hopsB] at hb
      simp only [Bool.and_eq_true, decide_eq_true_eq] at hb
      rcases List.mem_cons.1 hx with rfl | hx
      · exact ⟨hb.1.1.1.1.1.1, hb.1.1.1.1.1.2, hb.1.1.1.1.2, hb.1.1.1.2⟩
      · exact ih _ hb.2 x hx
  exact key L [] h6

theorem digs_len (n : Nat) (k : Nat) (h : n < 10 ^ (k + 1)) : (Lib.decDigits n).length ≤ k + 1 := by
  induction k generalizing n with
  | zero => rw [Lib.decDigits, dif_pos (by simpa using h)]; simp
  | succ k ih =>
    rw [Lib.decDigits]
    split
    · simp
    · have := ih (n / 10) (by rw [Nat.div_lt_iff_lt_mul (by omega)]; rw [Nat.pow_succ] at h; exact h)
      simp; omega

theorem show_len (r n : Int) (L : List (Int × Int)) (hr0 : 0 ≤ r) (hr1 : r < 16) (hn0 : 1 ≤ n) (hn1 : n ≤ 999999) (h : ∀ x ∈ L, 0 ≤ x.1 ∧ x.1 < 8 ∧ 0 ≤ x.2 ∧ x.2 < 16) : (Idn.showT r n L).length ≤ 13 + 14 * L.length := by
  have key : (L.flatMap Idn.hopT).length ≤ 14 * L.length := by
    induction L with
    | nil => simp
    | cons a t ih =>
      have h1 := ih (fun x hx => h x (List.mem_cons_of_mem _ hx))
      have h2 := h a List.mem_cons_self
      have l1 := digs_len a.1.toNat 5 (by omega)
      have l2 := digs_len a.2.toNat 5 (by omega)
      rw [List.flatMap_cons, List.length_append, List.length_cons]
      have e : (Idn.hopT a).length = (Lib.decDigits a.1.toNat).length + (Lib.decDigits a.2.toNat).length + 2 := by
        simp [Idn.hopT]; omega
      omega
  have l1 := digs_len r.toNat 5 (by omega)
  have l2 := digs_len n.toNat 5 (by omega)
  have e : (Idn.showT r n L).length = (Lib.decDigits r.toNat).length + (Lib.decDigits n.toNat).length + 1 + (L.flatMap Idn.hopT).length := by
    unfold Idn.showT
    rw [List.length_append, List.length_append, List.length_cons]; omega
  omega

set_option maxHeartbeats 8000000 in
set_option maxRecDepth 100000 in
theorem show_any (r n : Int) (L : List (Int × Int)) (ad : Option Addr) (cap : Nat) (w : World) (hL : HopsAt w ad L) (hn : L.length ≤ 9223372036854775807) (he : Env w) :
    Calls Tryz.prog 27 #[.agg #[.int .i64 r, .int .i64 n, .slice ad L.length cap]] w fun e w' =>
      ((Idn.mayB r n L = true ∧ e = .returned (.tuple #[.string ⟨(Idn.showT r n L).toArray⟩, .int .i64 0])) ∨ (Idn.mayB r n L = false ∧ e = .returned (.tuple #[.string ⟨#[]⟩, .int .i64 30]))) ∧ Gr w w' := by
  have HC : Hid (∀ w', Gr w w' → Calls Tryz.prog 54 #[.agg #[.int .i64 r, .int .i64 n, .slice ad L.length cap]] w' fun e w2 => e = .returned (.int .i64 (errB (Idn.mayB r n L))) ∧ Gr w' w2) := fun w' g => check_any r n L ad cap w' (hL.gr g) hn
  by_cases hm : Idn.mayB r n L = true
  · obtain ⟨hr0, hr1, hn0, hn1, h4, hall⟩ := may_root hm
    have HI : Hid (∀ (x : Int) (w' : World), 0 ≤ x → x ≤ 999999 → Gr w w' → Calls Tryz.prog 28 #[.int .i64 x] w' fun e w2 => e = .returned (.string ⟨(digsT x).toArray⟩) ∧ Gr w' w2) := by
      intro x w' h0 h1 g
      have := itoa_any x.toNat w' (by omega) (he.gr g)
      rw [show ((x.toNat : Nat) : Int) = x by omega] at this
      exact this
    have hlr : (digsT r).length ≤ 6 := digs_len r.toNat 5 (by omega)
    have hln : (digsT n).length ≤ 6 := digs_len n.toNat 5 (by omega)
    have ha1 := add_lists (digsT r) [46] (by simp; omega)
    have ha2 := add_lists (digsT r ++ [46]) (digsT n) (by simp; omega)
    have HT0 : Hid (Idn.showT r n [] = digsT r ++ [46] ++ digsT n) := by show _ = _; simp [Idn.showT, digsT]
    generalize digsT r ++ [46] ++ digsT n = u2 at ha2 HT0
    generalize digsT r ++ [46] = u1 at ha1 ha2
    rw [hm, show errB true = 0 from rfl] at HC
    have HM : Hid (Idn.mayB r n L = true) := hm
    have HL : Hid (HopsAt w ad L) := hL
    have HA : Hid (∀ x ∈ L, 0 ≤ x.1 ∧ x.1 < 8 ∧ 0 ≤ x.2 ∧ x.2 < 16) := hall
    clear hL hm hall he
    go_enter Tryz.func27, Tryz.ntmps27
    go_wp2_with fail
    refine (HC.out _ (by repeat (first | exact Gr.refl _ | refine Gr.alloc ?_ | refine Gr.drew ?_ | refine Gr.trans ?_ (by assumption)))).mono ?_
    rintro e1 w1 ⟨rfl, hg1⟩
    have p0 : w1.cell? ⟨w.heap.size, 0, none⟩ = some (.int .i64 r) := hg1.keep (by simp)
    have p1 : w1.cell? ⟨w.heap.size, 1, none⟩ = some (.int .i64 n) := hg1.keep (by simp)
    have p2 : w1.cell? ⟨w.heap.size, 2, none⟩ = some (.slice ad L.length cap) := hg1.keep (by simp)
    go_wp2
    go_region_held3 (fun w' => Gr w w' ∧ Gr w1 w' ∧ w'.cell? ⟨w.heap.size, 0, none⟩ = some (.int .i64 r) ∧ w'.cell? ⟨w.heap.size, 1, none⟩ = some (.int .i64 n))
      ((go_split_ands; exact ⟨(by repeat (first | exact Gr.refl _ | refine Gr.alloc ?_ | refine Gr.drew ?_ | refine Gr.trans ?_ (by assumption))), (by repeat (first | exact Gr.refl _ | refine Gr.alloc ?_ | refine Gr.drew ?_ | refine Gr.trans ?_ (by assumption))), Gr.keep (W := w1) (by repeat (first | exact Gr.refl _ | refine Gr.alloc ?_ | refine Gr.drew ?_ | refine Gr.trans ?_ (by assumption))) p0, Gr.keep (W := w1) (by repeat (first | exact Gr.refl _ | refine Gr.alloc ?_ | refine Gr.drew ?_ | refine Gr.trans ?_ (by assumption))) p1⟩))
      ((first | (go_at_call_of 28 (Value.int IntKind.i64 r); refine (HI.out r _ (by omega) (by omega) ?_).mono ?_; (go_split_ands; exact (by repeat (first | exact Gr.refl _ | refine Gr.alloc ?_ | refine Gr.drew ?_ | refine Gr.trans ?_ (by assumption)))); rintro e w2 ⟨rfl, hg2⟩; go_split_ands; have q2 : w2.cell? ⟨w.heap.size, 2, none⟩ = some (.slice ad L.length cap) := (Gr.keep (W := w1) (by repeat (first | exact Gr.refl _ | refine Gr.alloc ?_ | refine Gr.drew ?_ | refine Gr.trans ?_ (by assumption))) p2)) | (go_at_call 28; refine (HI.out n _ (by omega) (by omega) ?_).mono ?_; (go_split_ands; exact (by repeat (first | exact Gr.refl _ | refine Gr.alloc ?_ | refine Gr.drew ?_ | refine Gr.trans ?_ (by assumption)))); rintro e w3 ⟨rfl, hg3⟩; go_split_ands; have q3 : w3.cell? ⟨w.heap.size, 2, none⟩ = some (.slice ad L.length cap) := (Gr.keep (W := w1) (by repeat (first | exact Gr.refl _ | refine Gr.alloc ?_ | refine Gr.drew ?_ | refine Gr.trans ?_ (by assumption))) p2))))
    all_goals go_wp2
    all_goals
      go_loopw [5, 24] (fun o i wr => ∃ k : Nat, k ≤ L.length ∧ i = .int .i64 k ∧ o = .string ⟨(Idn.showT r n (L.take k)).toArray⟩ ∧ Gr w wr) (fun _ i _ => L.length - (intOf i).toNat)
      case atStart => exact ⟨0, by omega, rfl, by rw [List.take_zero, HT0.out], (by repeat (first | exact Gr.refl _ | refine Gr.alloc ?_ | refine Gr.drew ?_ | refine Gr.trans ?_ (by assumption)))⟩
      case round =>
        obtain ⟨k, hk, rfl, rfl, hg⟩ := hrel
        by_cases hlt : k < L.length
        · obtain ⟨b, off, rfl, hbl, hc, hd⟩ := HL.out k hlt
          have hc' := hg.keep hc
          have hd' := hg.keep hd
          obtain ⟨x0, x1, x2, x3⟩ := HA.out L[k] (List.getElem_mem hlt)
          have HT : Hid (Idn.showT r n (L.take (k + 1)) = Idn.showT r n (L.take k) ++ ([47] ++ digsT L[k].1 ++ [64] ++ digsT L[k].2)) := by
            show _ = _
            unfold Idn.showT
            rw [List.take_succ_eq_append_getElem hlt, List.flatMap_append]
            simp [Idn.hopT, digsT]
          have hsl := show_len r n (L.take k) hr0 hr1 hn0 hn1 (fun x hx => HA.out x (List.mem_of_mem_take hx))
          rw [List.length_take] at hsl
          obtain ⟨⟨y1, y2⟩, hy⟩ : ∃ h, L[k] = h := ⟨_, rfl⟩
          rw [hy] at hc' hd' x0 x1 x2 x3 HT
          simp only at x0 x1 x2 x3 HT
          have l1 : (digsT y1).length ≤ 6 := digs_len y1.toNat 5 (by omega)
          have l2 : (digsT y2).length ≤ 6 := digs_len y2.toNat 5 (by omega)
          have a1 := add_lists [47] (digsT y1) (by simp; omega)
          have a2 := add_lists ([47] ++ digsT y1) [64] (by simp; omega)
          have a3 := add_lists ([47] ++ digsT y1 ++ [64]) (digsT y2) (by simp; omega)
          have a4 := add_lists (Idn.showT r n (L.take k)) ([47] ++ digsT y1 ++ [64] ++ digsT y2) (by simp; omega)
          have hbw : b < wr.heap.size := Nat.lt_of_lt_of_le hbl hg.size
          have a4' : ∀ w : World, (Op.stringOp .add ⟨(Idn.showT r n (L.take k)).toArray⟩ ⟨([47] ++ digsT y1 ++ [64] ++ digsT y2).toArray⟩).run Tryz.prog w = .ok (.string ⟨(Idn.showT r n (L.take (k + 1))).toArray⟩) w := by intro w; rw [a4 w, HT.out]
          clear a4 HT
          obtain ⟨st2, hst⟩ : ∃ x, Idn.showT r n (L.take (k + 1)) = x := ⟨_, rfl⟩
          have HST : Hid (Idn.showT r n (L.take (k + 1)) = st2) := hst
          rw [hst] at a4'
          clear hst
          generalize Idn.showT r n (L.take k) = st at *
          generalize [47] ++ digsT y1 ++ [64] ++ digsT y2 = t3 at a3 a4'
          generalize [47] ++ digsT y1 ++ [64] = t2 at a2 a3
          generalize [47] ++ digsT y1 = t1 at a1 a2
          clear hc hd hy ha1 ha2 hsl
          go_wp2
          go_region_held3 (fun w' => Gr w w' ∧ Gr (wr.alloc (.cells #[.int .i64 y1, .int .i64 y2] 56)) w' ∧ w'.cell? ⟨wr.heap.size, 0, none⟩ = some (.int .i64 y1) ∧ w'.cell? ⟨wr.heap.size, 1, none⟩ = some (.int .i64 y2))
            ((go_split_ands; exact ⟨(by repeat (first | exact Gr.refl _ | refine Gr.alloc ?_ | refine Gr.drew ?_ | refine Gr.trans ?_ (by assumption))), (by repeat (first | exact Gr.refl _ | refine Gr.alloc ?_ | refine Gr.drew ?_ | refine Gr.trans ?_ (by assumption))), Gr.keep (W := wr.alloc (.cells #[.int .i64 y1, .int .i64 y2] 56)) (by repeat (first | exact Gr.refl _ | refine Gr.alloc ?_ | refine Gr.drew ?_ | refine Gr.trans ?_ (by assumption))) (by simp), Gr.keep (W := wr.alloc (.cells #[.int .i64 y1, .int .i64 y2] 56)) (by repeat (first | exact Gr.refl _ | refine Gr.alloc ?_ | refine Gr.drew ?_ | refine Gr.trans ?_ (by assumption))) (by simp)⟩))
            ((first | (go_at_call_of 28 (Value.int IntKind.i64 y1); refine (HI.out y1 _ (by omega) (by omega) ?_).mono ?_; (go_split_ands; exact (by repeat (first | exact Gr.refl _ | refine Gr.alloc ?_ | refine Gr.drew ?_ | refine Gr.trans ?_ (by assumption)))); rintro e w2 ⟨rfl, hg2⟩) | (go_at_call 28; refine (HI.out y2 _ (by omega) (by omega) ?_).mono ?_; (go_split_ands; exact (by repeat (first | exact Gr.refl _ | refine Gr.alloc ?_ | refine Gr.drew ?_ | refine Gr.trans ?_ (by assumption)))); rintro e w3 ⟨rfl, hg3⟩)))
          all_goals go_wp2
          all_goals
            go_roundw
            case rel => exact ⟨k + 1, by omega, by go_num, by rw [HST.out], (by repeat (first | exact Gr.refl _ | refine Gr.alloc ?_ | refine Gr.drew ?_ | refine Gr.trans ?_ (by assumption)))⟩
            case measure => simp [intOf]; omega
        · have HE : Hid (Idn.showT r n (L.take k) = Idn.showT r n L) := by
            show _ = _
            rw [List.take_of_length_le (by omega)]
          go_wp2
          go_ret2
          exact ⟨Or.inl ⟨HM.out, by rw [← HE.out]; rfl⟩, hg⟩
  · have hm' : Idn.mayB r n L = false := by simpa using hm
    rw [hm', show errB false = 30 from rfl] at HC
    have HM : Hid (Idn.mayB r n L = false) := hm'
    clear hL hm hm' he
    go_enter Tryz.func27, Tryz.ntmps27
    go_wp2_with fail
    refine (HC.out _ (by repeat (first | exact Gr.refl _ | refine Gr.alloc ?_ | refine Gr.drew ?_ | refine Gr.trans ?_ (by assumption)))).mono ?_
    rintro e1 w1 ⟨rfl, hg1⟩
    go_wp2
    go_ret2
    exact ⟨Or.inr ⟨HM.out, rfl⟩, (by repeat (first | exact Gr.refl _ | refine Gr.alloc ?_ | refine Gr.drew ?_ | refine Gr.trans ?_ (by assumption)))⟩
end Go.Proofs.YtcmbppjfpdkblaaGreatDoor
/- Parse: the id that may be whose Show a text is. -/
namespace Go.Proofs.YtcmbppjfpdkblaaGreatDoor
open Go.RowKit

/- is a text the text of the id that is read from it? -/
def parB (l : List UInt8) : Bool := Idn.mayB (readR l).1 (readR l).2 (readL l) && decide (Idn.showT (readR l).1 (readR l).2 (readL l) = l)

set_option maxHeartbeats 4000000 in
set_option maxRecDepth 100000 in
theorem parse_new (s : ByteArray) (w : World) (hs : s.size ≤ 140737488355328) (he : Env w) :
    Calls Tryz.prog 85 #[.string s] w fun e w' =>
      ((parB s.data.toList = true ∧ ∃ ad2 cap2, e = .returned (.tuple #[.agg #[.int .i64 (readR s.data.toList).1, .int .i64 (readR s.data.toList).2, .slice ad2 (readL s.data.toList).length cap2], .int .i64 0]) ∧ (readL s.data.toList).length ≤ cap2 ∧ HopsAt w' ad2 (readL s.data.toList) ∧ ∀ a, ad2 = some a → w.heap.size ≤ a.block) ∨
       (parB s.data.toList = false ∧ e = .returned (.tuple #[.agg #[.int .i64 0, .int .i64 0, .slice none 0 0], .int .i64 30]))) ∧ Gr w w' := by
  have HR : Hid (∀ w', Gr w w' → Calls Tryz.prog 97 #[.string s] w' fun e w2 => ∃ ad2 cap2, e = .returned (.agg #[.int .i64 (readR s.data.toList).1, .int .i64 (readR s.data.toList).2, .slice ad2 (readL s.data.toList).length cap2]) ∧ (readL s.data.toList).length ≤ cap2 ∧ HopsAt w2 ad2 (readL s.data.toList) ∧ (∀ a, ad2 = some a → w'.heap.size ≤ a.block) ∧ Gr w' w2) := fun w' g => read_any s w' hs (he.gr g)
  have h4 : (readL s.data.toList).length ≤ 4 := readH_len 4 _ _
  have HPB : Hid (parB s.data.toList = (Idn.mayB (readR s.data.toList).1 (readR s.data.toList).2 (readL s.data.toList) && decide (Idn.showT (readR s.data.toList).1 (readR s.data.toList).2 (readL s.data.toList) = s.data.toList))) := rfl
  obtain ⟨⟨r, n⟩, hrn⟩ : ∃ x, readR s.data.toList = x := ⟨_, rfl⟩
  obtain ⟨L, hL⟩ : ∃ x, readL s.data.toList = x := ⟨_, rfl⟩
  rw [hrn, hL] at HR HPB
  rw [hL] at h4
  rw [hrn, hL]
  simp only at HR HPB ⊢
  have HS : Hid (∀ (w' : World) (ad2 : Option Addr) (cap2 : Nat), Gr w w' → HopsAt w' ad2 L → Calls Tryz.prog 27 #[.agg #[.int .i64 r, .int .i64 n, .slice ad2 L.length cap2]] w' fun e w2 => ((Idn.mayB r n L = true ∧ e = .returned (.tuple #[.string ⟨(Idn.showT r n L).toArray⟩, .int .i64 0])) ∨ (Idn.mayB r n L = false ∧ e = .returned (.tuple #[.string ⟨#[]⟩, .int .i64 30]))) ∧ Gr w' w2) := fun w' ad2 cap2 g h => show_any r n L ad2 cap2 w' h (by omega) (he.gr g)
  clear hrn hL he
  go_enter Tryz.func85, Tryz.ntmps85
  go_wp2_with fail
  refine (HR.out _ (by repeat (first | exact Gr.refl _ | refine Gr.alloc ?_ | refine Gr.drew ?_ | refine Gr.trans ?_ (by assumption)))).mono ?_
  rintro e1 w1 ⟨ad2, cap2, rfl, hcp, hia, hfr, hg1⟩
  have HB : Hid (BoxAt w1 w.heap.size (.int .i64 0) (.int .i64 0) (.slice none 0 0)) := (BoxAt.new w _ _ _ 24 _ rfl).gr hg1
  have HI : Hid (HopsAt w1 ad2 L) := hia
  have HFR : Hid (∀ a, ad2 = some a → w.heap.size + 1 ≤ a.block) := fun a e => by have := hfr a e; simpa using this
  clear hia hfr
  go_wp2_with fail
  refine (HS.out _ _ _ ?_ ?_).mono ?_
  · exact (by repeat (first | exact Gr.refl _ | refine Gr.alloc ?_ | refine Gr.drew ?_ | refine Gr.trans ?_ (by assumption)))
  · exact HI.out.gr (by repeat (first | exact Gr.refl _ | refine Gr.alloc ?_ | refine Gr.drew ?_ | refine Gr.trans ?_ (by assumption)))
  rintro e2 w2 ⟨hcase, hg2⟩
  obtain ⟨b0, b1, b2, f0, f1, f2, b6⟩ := (HB.out.gr (Gr.refl _).alloc).gr hg2
  obtain ⟨c0, c1, c2, k0, k1, k2, c6⟩ := (BoxAt.new w1 (.int .i64 r) (.int .i64 n) (.slice ad2 L.length cap2) 24 _ rfl).gr hg2
  rcases hcase with ⟨hm, rfl⟩ | ⟨hm, rfl⟩
  · by_cases hq : Idn.showT r n L = s.data.toList
    · have HP : Hid (parB s.data.toList = true) := by show _ = _; rw [HPB.out, hm]; simp [hq]
      have heq : (⟨(Idn.showT r n L).toArray⟩ : ByteArray) = s := by rw [hq]
      rw [heq]
      clear hm hq heq HPB
      have HI2 : Hid (HopsAt w2 ad2 L) := (HI.out.alloc).gr hg2
      go_wp2
      have hia := HI2.out
      have hfr := HFR.out
      exact bodyPost_ret (v := .tuple #[.agg #[.int .i64 r, .int .i64 n, .slice ad2 L.length cap2], .int .i64 0]) (by simp [results, Tryz.results85, go_sem, b0, b1, b2]) rfl ⟨Or.inl ⟨HP.out, ad2, cap2, rfl, hcp, (by (repeat' (first | with_reducible exact hia | with_reducible refine HopsAt.set ?_ _ _ ?_ | with_reducible refine HopsAt.alloc ?_ | with_reducible refine HopsAt.drew ?_)) <;> (intro a e; have := hfr a e; simp at this ⊢; omega)), fun a e => by have := HFR.out a e; omega⟩, (by (repeat' (first | with_reducible exact Gr.refl _ | with_reducible refine Gr.set ?_ _ ?_ _ | with_reducible refine Gr.alloc ?_ | with_reducible refine Gr.drew ?_ | with_reducible refine Gr.trans ?_ (by assumption))) <;> (first | (simp; done) | (simp; omega) | omega))⟩
    · have HP : Hid (parB s.data.toList = false) := by show _ = _; rw [HPB.out]; simp [hq]
      have hne : ((⟨(Idn.showT r n L).toArray⟩ : ByteArray).toList == s.toList) = false := by
        rw [ByteArray.toList_eq, ByteArray.toList_eq]
        simpa using hq
      generalize (⟨(Idn.showT r n L).toArray⟩ : ByteArray) = t at *
      clear HPB hm hq
      go_wp2
      exact bodyPost_ret (v := .tuple #[.agg #[.int .i64 0, .int .i64 0, .slice none 0 0], .int .i64 30]) (by simp [results, Tryz.results85, go_sem, b0, b1, b2]) rfl ⟨Or.inr ⟨HP.out, rfl⟩, (by (repeat' (first | with_reducible exact Gr.refl _ | with_reducible refine Gr.set ?_ _ ?_ _ | with_reducible refine Gr.alloc ?_ | with_reducible refine Gr.drew ?_ | with_reducible refine Gr.trans ?_ (by assumption))) <;> (first | (simp; done) | (simp; omega) | omega))⟩
  · have HP : Hid (parB s.data.toList = false) := by show _ = _; rw [HPB.out, hm]; rfl
    clear HPB hm
    go_wp2
    exact bodyPost_ret (v := .tuple #[.agg #[.int .i64 0, .int .i64 0, .slice none 0 0], .int .i64 30]) (by simp [results, Tryz.results85, go_sem, b0, b1, b2]) rfl ⟨Or.inr ⟨HP.out, rfl⟩, (by (repeat' (first | with_reducible exact Gr.refl _ | with_reducible refine Gr.set ?_ _ ?_ _ | with_reducible refine Gr.alloc ?_ | with_reducible refine Gr.drew ?_ | with_reducible refine Gr.trans ?_ (by assumption))) <;> (first | (simp; done) | (simp; omega) | omega))⟩
theorem parse_any (s : ByteArray) (w : World) (hs : s.size ≤ 140737488355328) (he : Env w) :
    Calls Tryz.prog 85 #[.string s] w fun e w' =>
      ((parB s.data.toList = true ∧ ∃ ad2 cap2, e = .returned (.tuple #[.agg #[.int .i64 (readR s.data.toList).1, .int .i64 (readR s.data.toList).2, .slice ad2 (readL s.data.toList).length cap2], .int .i64 0]) ∧ (readL s.data.toList).length ≤ cap2 ∧ HopsAt w' ad2 (readL s.data.toList)) ∨
       (parB s.data.toList = false ∧ e = .returned (.tuple #[.agg #[.int .i64 0, .int .i64 0, .slice none 0 0], .int .i64 30]))) ∧ Gr w w' := by
  refine (parse_new s w hs he).mono ?_
  rintro e w' ⟨⟨h1, ad2, cap2, h2, h3, h4, _⟩ | h, hg⟩
  · exact ⟨Or.inl ⟨h1, ad2, cap2, h2, h3, h4⟩, hg⟩
  · exact ⟨Or.inr h, hg⟩
end Go.Proofs.YtcmbppjfpdkblaaGreatDoor
/- What is read of the text of an id is the id. -/
namespace Go.Proofs.YtcmbppjfpdkblaaGreatDoor

theorem dig_mem (n : Nat) : ∀ b ∈ Lib.decDigits n, 48 ≤ b.toNat ∧ b.toNat ≤ 57 := by
  induction n using Nat.strongRecOn with
  | _ n ih =>
    intro b hb
    rw [Lib.decDigits] at hb
    split at hb
    · next h =>
      rw [List.mem_singleton] at hb
      subst hb
      rw [UInt8.toNat_ofNat']; omega
    · next h =>
      rcases List.mem_append.1 hb with hb | hb
      · exact ih (n / 10) (by omega) b hb
      · rw [List.mem_singleton] at hb
        subst hb
        rw [UInt8.toNat_ofNat']; omega
theorem dig_ne (n : Nat) : Lib.decDigits n ≠ [] := by
  rw [Lib.decDigits]
  split <;> simp
theorem dig_not (n : Nat) (c : UInt8) (h : c.toNat < 48 ∨ 57 < c.toNat) : c ∉ Lib.decDigits n := fun hm => by
  have := dig_mem n c hm
  omega
theorem parse_snoc (l : List UInt8) (k : Nat) (hk : k < 10) : ∀ acc u, Lib.parseUint10 acc l = .ok u → u * 10 + k < 1000000000000000000 → Lib.parseUint10 acc (l ++ [UInt8.ofNat (48 + k)]) = .ok (u * 10 + k) := by
  have ht : (UInt8.ofNat (48 + k)).toNat = 48 + k := by rw [UInt8.toNat_ofNat']; omega
  induction l with
  | nil =>
    intro acc u h hu
    simp only [Lib.parseUint10] at h
    injection h with h
    subst h
    rw [List.nil_append, Lib.parseUint10, ht, if_pos (by omega), if_neg (by omega), if_neg (by omega), show 48 + k - 48 = k by omega]
    rfl
  | cons c t ih =>
    intro acc u h hu
    rw [List.cons_append, Lib.parseUint10]
    rw [Lib.parseUint10] at h
    split at h
    · next h1 =>
      rw [if_pos h1]
      split at h
      · cases h
      · next h2 =>
        rw [if_neg h2]
        split at h
        · cases h
        · next h3 =>
          rw [if_neg h3]
          exact ih _ _ h hu
    · cases h
theorem parse_digs (n : Nat) : n < 1000000000000000000 → Lib.parseUint10 0 (Lib.decDigits n) = .ok n := by
  induction n using Nat.strongRecOn with
  | _ n ih =>
    intro hn
    rw [Lib.decDigits]
    split
    · next h =>
      have := parse_snoc [] n h 0 0 rfl (by omega)
      simpa using this
    · next h =>
      have := parse_snoc (Lib.decDigits (n / 10)) (n % 10) (by omega) 0 (n / 10) (ih (n / 10) (by omega) (by omega)) (by omega)
      rw [this]
      congr 1
      omega
theorem num_digs (n : Nat) (hn : n < 1000000000000000000) : numE (Lib.decDigits n) = n := by
  have h1 := parse_digs n hn
  have h2 := dig_mem n
  have h3 := dig_ne n
  cases hl : Lib.decDigits n with
  | nil => exact absurd hl h3
  | cons c r =>
    rw [hl] at h1 h2
    have hc := h2 c List.mem_cons_self
    have e1 : ¬ (c.toNat = 43 ∨ c.toNat = 45) := by omega
    have e2 : ¬ c.toNat = 45 := by omega
    have e3 : Lib.parseMag (c :: r) = .ok n := by unfold Lib.parseMag; rw [if_neg (by simp), h1]
    have key : Lib.atoiAll (c :: r) = .ok (n : Int) := by
      have e4 : (if c.toNat = 43 ∨ c.toNat = 45 then r else c :: r) = c :: r := if_neg e1
      simp only [Lib.atoiAll, e4, e3]
      rw [if_neg (by omega), if_neg (by omega), if_neg e2]
    unfold numE
    rw [key]

theorem cut_at (l m : List UInt8) (c : UInt8) (h : c ∉ l) : Idn.cut3 (l ++ c :: m) c = (l, m, true) := by
  induction l with
  | nil => simp [Idn.cut3]
  | cons b t ih =>
    rw [List.mem_cons, not_or] at h
    rw [List.cons_append, Idn.cut3, if_neg (fun e => h.1 e.symm), ih h.2]
theorem cut_none (l : List UInt8) (c : UInt8) (h : c ∉ l) : Idn.cut3 l c = (l, [], false) := by
  induction l with
  | nil => rfl
  | cons b t ih =>
    rw [List.mem_cons, not_or] at h
    rw [Idn.cut3, if_neg (fun e => h.1 e.symm), ih h.2]
theorem pair_digs (a b : Nat) (c : UInt8) (hc : c.toNat < 48 ∨ 57 < c.toNat) (ha : a < 1000000000000000000) (hb : b < 1000000000000000000) : pairE (Lib.decDigits a ++ c :: Lib.decDigits b) c = ((a : Int), (b : Int)) := by
  unfold pairE
  rw [cut_at _ _ _ (dig_not a c hc), num_digs a ha, num_digs b hb]

def bodyT (h : Int × Int) : List UInt8 := Lib.decDigits h.1.toNat ++ 64 :: Lib.decDigits h.2.toNat
def restT : List (Int × Int) → List UInt8
  | [] => []
  | h :: t => bodyT h ++ t.flatMap Idn.hopT
theorem cut_rest (p : List UInt8) (L : List (Int × Int)) (hp : 47 ∉ p) : Idn.cut3 (p ++ L.flatMap Idn.hopT) 47 = (p, restT L, !L.isEmpty) := by
  cases L with
  | nil => simpa [restT] using cut_none p 47 hp
  | cons h t =>
    have : (h :: t).flatMap Idn.hopT = 47 :: restT (h :: t) := by simp [Idn.hopT, restT, bodyT]
    rw [this, cut_at p _ 47 hp]; rfl
theorem body_not (h : Int × Int) : (47 : UInt8) ∉ bodyT h := by
  unfold bodyT
  rw [List.mem_append, List.mem_cons, not_or, not_or]
  exact ⟨dig_not _ _ (by decide), by decide, dig_not _ _ (by decide)⟩
theorem readH_rest (L : List (Int × Int)) (hL : ∀ x ∈ L, 0 ≤ x.1 ∧ x.1 < 8 ∧ 0 ≤ x.2 ∧ x.2 < 16) : ∀ k, L.length ≤ k → readH k (restT L) (!L.isEmpty) = L := by
  induction L with
  | nil => intro k _; cases k <;> rfl
  | cons h t ih =>
    intro k hk
    cases k with
    | zero => simp at hk
    | succ k =>
      have hh := hL h List.mem_cons_self
      have hp : pairE (bodyT h) 64 = h := by
        unfold bodyT
        rw [pair_digs _ _ _ (by decide) (by omega) (by omega)]
        exact Prod.ext (by simp; omega) (by simp; omega)
      show pairE (Idn.cut3 (bodyT h ++ t.flatMap Idn.hopT) 47).1 64 :: readH k (Idn.cut3 (bodyT h ++ t.flatMap Idn.hopT) 47).2.1 (Idn.cut3 (bodyT h ++ t.flatMap Idn.hopT) 47).2.2 = h :: t
      rw [cut_rest _ _ (body_not h), hp, ih (fun x hx => hL x (List.mem_cons_of_mem _ hx)) k (by simpa using hk)]
theorem read_show (r n : Int) (L : List (Int × Int)) (hm : Idn.mayB r n L = true) : readR (Idn.showT r n L) = (r, n) ∧ readL (Idn.showT r n L) = L := by
  obtain ⟨h1, h2, h3, h4, h5, h6⟩ := may_root hm
  have hp : (47 : UInt8) ∉ Lib.decDigits r.toNat ++ 46 :: Lib.decDigits n.toNat := by
    rw [List.mem_append, List.mem_cons, not_or, not_or]
    exact ⟨dig_not _ _ (by decide), by decide, dig_not _ _ (by decide)⟩
  unfold readR readL Idn.showT
  rw [cut_rest _ _ hp]
  refine ⟨?_, readH_rest L h6 4 h5⟩
  rw [pair_digs _ _ _ (by decide) (by omega) (by omega)]
  exact Prod.ext (by simp; omega) (by simp; omega)
theorem par_show (r n : Int) (L : List (Int × Int)) (hm : Idn.mayB r n L = true) : parB (Idn.showT r n L) = true := by
  obtain ⟨h1, h2⟩ := read_show r n L hm
  unfold parB
  rw [h1, h2]
  simp [hm]
end Go.Proofs.YtcmbppjfpdkblaaGreatDoor
/- Plain mathematics of the document's reading of ids: runs of digits, and what they say. -/
namespace Go.Proofs.YtcmbppjfpdkblaaGreatDoor

def isD (b : UInt8) : Bool := decide (48 ≤ b.toNat) && decide (b.toNat ≤ 57)
def numS (l : List UInt8) (k : Nat) : List UInt8 := ((l.drop k).take 6).takeWhile isD
def numV (ds : List UInt8) : Nat := ds.foldl (fun n b => 10 * n + (b.toNat - 48)) 0
def nV (l : List UInt8) (k : Nat) : Int := (numV (numS l k) : Nat)
def nT (l : List UInt8) (k : Nat) : Nat := k + (numS l k).length
def nB (l : List UInt8) (k : Nat) : Bool := decide (0 < (numS l k).length)

theorem numV_snoc (ds : List UInt8) (b : UInt8) : numV (ds ++ [b]) = 10 * numV ds + (b.toNat - 48) := by
  unfold numV; rw [List.foldl_append]; rfl
theorem takeWhile_len {α : Type} (p : α → Bool) (l : List α) : (l.takeWhile p).length ≤ l.length := (List.takeWhile_sublist p).length_le
theorem nT_le (l : List UInt8) (k : Nat) (h : k ≤ l.length) : nT l k ≤ l.length := by
  unfold nT numS
  have h1 := takeWhile_len isD ((l.drop k).take 6)
  rw [List.length_take, List.length_drop] at h1
  omega
theorem while_take (l : List UInt8) : ∀ k, k ≤ l.length → (∀ b ∈ l.take k, isD b = true) → (∀ h : k < l.length, isD l[k] = false) → l.takeWhile isD = l.take k := by
  induction l with
  | nil => intro k _ _ _; simp
  | cons a t ih =>
    intro k hk h1 h2
    cases k with
    | zero =>
      have := h2 (by simp)
      rw [List.takeWhile_cons]
      simp at this
      rw [this]; simp
    | succ k =>
      rw [List.take_succ_cons] at h1 ⊢
      rw [List.takeWhile_cons, h1 a List.mem_cons_self, if_pos rfl, ih k (by simpa using hk) (fun b hb => h1 b (List.mem_cons_of_mem _ hb)) (fun h => by have := h2 (by simpa using h); simpa using this)]
theorem isD_dig (n : Nat) : ∀ b ∈ Lib.decDigits n, isD b = true := fun b hb => by
  have := dig_mem n b hb
  simp [isD, this]
theorem numV_dig (n : Nat) : numV (Lib.decDigits n) = n := by
  induction n using Nat.strongRecOn with
  | _ n ih =>
    rw [Lib.decDigits]
    split
    · next h => unfold numV; simp; omega
    · next h =>
      rw [numV_snoc, ih (n / 10) (by omega)]
      simp; omega
/- a number that stands in a text, between what is none of its digits -/
theorem numS_at (A : List UInt8) (x : Nat) (R : List UInt8) (hx : x < 1000000) (hR : ∀ h : 0 < R.length, isD R[0] = false) : numS (A ++ (Lib.decDigits x ++ R)) A.length = Lib.decDigits x := by
  unfold numS
  rw [List.drop_left]
  have hl : (Lib.decDigits x).length ≤ 6 := digs_len x 5 (by omega)
  have e : (Lib.decDigits x ++ R).take 6 = Lib.decDigits x ++ R.take (6 - (Lib.decDigits x).length) := by
    rw [List.take_append, List.take_of_length_le hl]
  rw [e]
  have := while_take (Lib.decDigits x ++ R.take (6 - (Lib.decDigits x).length)) (Lib.decDigits x).length (by simp) (by rw [List.take_left]; exact isD_dig x) (by
    intro h
    rw [List.getElem_append_right (by omega)]
    simp only [Nat.sub_self]
    rw [List.getElem_take]
    exact hR (by rw [List.length_append, List.length_take] at h; omega))
  rw [this, List.take_left]
theorem num_at (A : List UInt8) (x : Nat) (R l : List UInt8) (hl : l = A ++ (Lib.decDigits x ++ R)) (hx : x < 1000000) (hR : ∀ h : 0 < R.length, isD R[0] = false) (k : Nat) (hk : k = A.length) :
    nV l k = x ∧ nT l k = (A ++ Lib.decDigits x).length ∧ nB l k = true := by
  subst hl hk
  unfold nV nT nB
  rw [numS_at A x R hx hR, numV_dig]
  refine ⟨rfl, by simp, ?_⟩
  have := dig_ne x
  exact decide_eq_true (List.length_pos_iff.2 this)

def loopR (l : List UInt8) : Nat → Nat → Bool → List (Int × Int) → Option (List (Int × Int) × Bool)
  | 0, _, ok, hs => some (hs, ok)
  | f + 1, k, ok, hs =>
    if ok = true ∧ k < l.length then
      if nB l (k + 1) = false ∨ nT l (k + 1) = l.length then none
      else loopR l f (nT l (nT l (k + 1) + 1)) (nB l (nT l (k + 1) + 1)) (hs ++ [(nV l (k + 1), nV l (nT l (k + 1) + 1))])
    else some (hs, ok)
def refI (l : List UInt8) : Option (Int × Int × List (Int × Int) × Bool) :=
  if nB l 0 = false ∨ nT l 0 = l.length then none
  else match loopR l 5 (nT l (nT l 0 + 1)) (nB l (nT l 0 + 1)) [] with
    | none => none
    | some (hs, ok) => some (nV l 0, nV l (nT l 0 + 1), hs, ok)
def goodB (l : List UInt8) (x : Int × Int × List (Int × Int) × Bool) : Bool := x.2.2.2 && Idn.mayB x.1 x.2.1 x.2.2.1 && decide (Idn.showT x.1 x.2.1 x.2.2.1 = l)

theorem hop_sep (t : List (Int × Int)) : ∀ h : 0 < (t.flatMap Idn.hopT).length, isD (t.flatMap Idn.hopT)[0] = false := by
  intro h
  cases t with
  | nil => simp at h
  | cons x t => simp [Idn.hopT, List.flatMap_cons, isD]
theorem loop_show (l : List UInt8) : ∀ (Ls : List (Int × Int)) (A : List UInt8) (hs : List (Int × Int)) (f : Nat), l = A ++ Ls.flatMap Idn.hopT → (∀ x ∈ Ls, 0 ≤ x.1 ∧ x.1 < 8 ∧ 0 ≤ x.2 ∧ x.2 < 16) → Ls.length < f →
    loopR l f A.length true hs = some (hs ++ Ls, true) := by
  intro Ls
  induction Ls with
  | nil =>
    intro A hs f hl _ hf
    cases f with
    | zero => omega
    | succ f =>
      rw [loopR, if_neg (by rw [hl]; simp)]; simp
  | cons x t ih =>
    intro A hs f hl hx hf
    cases f with
    | zero => simp at hf
    | succ f =>
      obtain ⟨h1, h2, h3, h4⟩ := hx x List.mem_cons_self
      have e1 : l = (A ++ [47]) ++ (Lib.decDigits x.1.toNat ++ ([64] ++ Lib.decDigits x.2.toNat ++ t.flatMap Idn.hopT)) := by
        rw [hl, List.flatMap_cons]; simp [Idn.hopT]
      have e2 : l = (A ++ [47] ++ Lib.decDigits x.1.toNat ++ [64]) ++ (Lib.decDigits x.2.toNat ++ t.flatMap Idn.hopT) := by
        rw [hl, List.flatMap_cons]; simp [Idn.hopT]
      obtain ⟨v1, t1, b1⟩ := num_at (A ++ [47]) x.1.toNat _ l e1 (by omega) (by intro _; simp [isD]) (A.length + 1) (by simp)
      obtain ⟨v2, t2, b2⟩ := num_at (A ++ [47] ++ Lib.decDigits x.1.toNat ++ [64]) x.2.toNat _ l e2 (by omega) (hop_sep t) (nT l (A.length + 1) + 1) (by rw [t1]; simp; omega)
      have hlen : A.length < l.length := by rw [e1]; simp
      have hne : nT l (A.length + 1) ≠ l.length := by rw [t1]; intro e; rw [e1] at e; simp at e
      rw [loopR, if_pos ⟨rfl, hlen⟩, if_neg (by rw [b1]; simp [hne]), b2, v1, v2, t2]
      rw [ih (A ++ [47] ++ Lib.decDigits x.1.toNat ++ [64] ++ Lib.decDigits x.2.toNat) (hs ++ [(((x.1.toNat : Nat) : Int), ((x.2.toNat : Nat) : Int))]) f (by rw [e2]; simp) (fun y hy => hx y (List.mem_cons_of_mem _ hy)) (by simpa using hf)]
      rw [show ((x.1.toNat : Nat) : Int) = x.1 by omega, show ((x.2.toNat : Nat) : Int) = x.2 by omega]
      simp
theorem refI_show (r n : Int) (L : List (Int × Int)) (h : Idn.mayB r n L = true) : refI (Idn.showT r n L) = some (r, n, L, true) := by
  obtain ⟨h1, h2, h3, h4, h5, h6⟩ := may_root h
  have e1 : Idn.showT r n L = [] ++ (Lib.decDigits r.toNat ++ ([46] ++ Lib.decDigits n.toNat ++ L.flatMap Idn.hopT)) := by simp [Idn.showT]
  have e2 : Idn.showT r n L = (Lib.decDigits r.toNat ++ [46]) ++ (Lib.decDigits n.toNat ++ L.flatMap Idn.hopT) := by simp [Idn.showT]
  generalize Idn.showT r n L = l at *
  obtain ⟨v1, t1, b1⟩ := num_at [] r.toNat _ l e1 (by omega) (by intro _; simp [isD]) 0 (by simp)
  obtain ⟨v2, t2, b2⟩ := num_at (Lib.decDigits r.toNat ++ [46]) n.toNat _ l e2 (by omega) (hop_sep L) (nT l 0 + 1) (by rw [t1]; simp)
  have hne : nT l 0 ≠ l.length := by rw [t1]; intro e; rw [e1] at e; simp at e
  unfold refI
  rw [if_neg (by rw [b1]; simp [hne]), b2, v1, v2, t2, loop_show l L _ [] 5 (by rw [e2]; simp) h6 (by omega)]
  simp only [List.nil_append]
  rw [show ((r.toNat : Nat) : Int) = r by omega, show ((n.toNat : Nat) : Int) = n by omega]
def refP (l : List UInt8) : Option (Int × Int × List (Int × Int)) := match refI l with
  | none => none
  | some x => if goodB l x = true then some (x.1, x.2.1, x.2.2.1) else none
theorem ref_par (l : List UInt8) : refP l = if parB l = true then some ((readR l).1, (readR l).2, readL l) else none := by
  by_cases hp : parB l = true
  · rw [if_pos hp]
    have h := hp
    unfold parB at h
    simp only [Bool.and_eq_true, decide_eq_true_eq] at h
    have hi := refI_show _ _ _ h.1
    rw [h.2] at hi
    unfold refP
    rw [hi]
    have hg : goodB l ((readR l).1, (readR l).2, readL l, true) = true := by
      unfold goodB
      simp only [Bool.true_and, Bool.and_eq_true, decide_eq_true_eq]
      exact h
    simp only [hg, if_true]
  · rw [if_neg hp]
    unfold refP
    cases hi : refI l with
    | none => rfl
    | some x =>
      have hg : goodB l x = false := by
        cases hg : goodB l x with
        | false => rfl
        | true =>
          unfold goodB at hg
          simp only [Bool.and_eq_true, decide_eq_true_eq] at hg
          have := par_show _ _ _ hg.1.2
          rw [hg.2] at this
          exact absurd this hp
      simp [hg]
end Go.Proofs.YtcmbppjfpdkblaaGreatDoor
