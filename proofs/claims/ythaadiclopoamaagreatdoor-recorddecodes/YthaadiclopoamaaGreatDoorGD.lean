/- Parts of these proofs, laid together. -/
import Derived.Test.YthaadiclopoamaaGreatDoorGC
import Derived.Test.YthaadiclopoamaaGreatDoorGB
import Derived.Test.YthaadiclopoamaaGreatDoorGA
/- strings.Cut at one byte; readPair. -/
set_option maxRecDepth 100000
set_option maxHeartbeats 8000000
namespace Go.Proofs.YthaadiclopoamaaGreatDoor
open Go.RowKit

theorem ext_list (s : ByteArray) (a b : Nat) (h : a <= b) : (s.extract a b).data.toList = (s.data.toList.take b).drop a := by
 simp [ByteArray.data_extract, List.take_drop]
 rw [show a + (b - a) = b by omega]

theorem scut_any (s : ByteArray) (c : UInt8) (w : World) (hs : s.size <= 140737488355328) :
  Calls Tryz.prog 166 #[.string s, .string ⟨#[c]⟩] w fun e w' => ∃ x y f, e = .returned (.tuple #[.string x, .string y, .bool f]) /\ Idn.cut3 s.data.toList c = (x.data.toList, y.data.toList, f) /\ x.size <= s.size /\ y.size <= s.size /\ Gr w w' := by
 have HX : Hid (Calls Tryz.prog 178 #[.string s, .string ⟨#[c]⟩] w fun e w' => e = .returned (.int .i64 (Lib.indexByte s.data.toList c)) /\ w' = w) := Tryz.stringslite_Index_one s c w
 rcases Idn.index_cut s.data.toList c with ⟨h1, h2⟩ | ⟨i, h1, h2, h3⟩
 ·rw [h1] at HX
  have HC : Hid (Idn.cut3 s.data.toList c = (s.data.toList, [], false)) := h2
  clear h1 h2
  go_enter Tryz.func166, Tryz.ntmps166
  go_wp2_with fail
  refine HX.out.mono ?_
  rintro e1 w1 ⟨rfl, hw1⟩; obtain rfl := hw1.symm
  go_wp2
  go_ret3
  exact ⟨_, _, _, rfl, HC.out, Nat.le_refl _, Nat.zero_le _, Gr.refl _⟩
 ·rw [h1] at HX
  have hi : i < s.size := by simpa using h2
  have HC : Hid (Idn.cut3 s.data.toList c = ((s.extract 0 i).data.toList, (s.extract (i + 1) s.size).data.toList, true)) := by
   show _ = _
   rw [h3, ext_list s 0 i (by omega), ext_list s (i + 1) s.size (by omega), List.drop_zero, show s.data.toList.take s.size = s.data.toList from List.take_of_length_le (by show s.data.toList.length <= s.data.size; simp)]
  have hone : (⟨#[c]⟩ : ByteArray).size = 1 := rfl
  have b0 : (0 : Int) <= (i : Int) := by omega
  have b1 : (i : Int) <= (s.size : Int) := by omega
  have b2 : (i : Int) + 1 <= (s.size : Int) := by omega
  have b3 : (0 : Int) <= (i : Int) + 1 := by omega
  have b4 : ((i : Int) + 1).toNat = i + 1 := by omega
  clear h1 h2 h3
  go_enter Tryz.func166, Tryz.ntmps166
  go_wp2_with fail
  refine HX.out.mono ?_
  rintro e1 w1 ⟨rfl, hw1⟩; obtain rfl := hw1.symm
  go_wp2
  go_region
  go_wp2
  go_ret3
  exact ⟨_, _, _, rfl, HC.out, by simp; omega, by simp, (Gr.refl _).drew⟩

theorem cut_any (s : ByteArray) (c : UInt8) (w : World) (hs : s.size <= 140737488355328) :
  Calls Tryz.prog 149 #[.string s, .string ⟨#[c]⟩] w fun e w' => ∃ x y f, e = .returned (.tuple #[.string x, .string y, .bool f]) /\ Idn.cut3 s.data.toList c = (x.data.toList, y.data.toList, f) /\ x.size <= s.size /\ y.size <= s.size /\ Gr w w' := by
 have HC : Hid (Calls Tryz.prog 166 #[.string s, .string ⟨#[c]⟩] w fun e w' => ∃ x y f, e = .returned (.tuple #[.string x, .string y, .bool f]) /\ Idn.cut3 s.data.toList c = (x.data.toList, y.data.toList, f) /\ x.size <= s.size /\ y.size <= s.size /\ Gr w w') := scut_any s c w hs
 go_enter Tryz.func149, Tryz.ntmps149
 go_wp2_with fail
 refine HC.out.mono ?_
 rintro e1 w1 ⟨x, y, f, rfl, hc, hx, hy, hg⟩
 have HX : Hid (Idn.cut3 s.data.toList c = (x.data.toList, y.data.toList, f)) := hc
 clear hc
 go_wp2
 go_ret3
 exact ⟨x, y, f, rfl, HX.out, hx, hy, hg⟩

def pairE (l : List UInt8) (c : UInt8) : Int × Int := (numE (Idn.cut3 l c).1, numE (Idn.cut3 l c).2.1)

theorem readPair_any (s : ByteArray) (c : UInt8) (w : World) (hs : s.size <= 140737488355328) (he : Env w) :
  Calls Tryz.prog 150 #[.string s, .string ⟨#[c]⟩] w fun e w' => e = .returned (.tuple #[.int .i64 (pairE s.data.toList c).1, .int .i64 (pairE s.data.toList c).2]) /\ Gr w w' := by
 have HC : Hid (Calls Tryz.prog 149 #[.string s, .string ⟨#[c]⟩] w fun e w' => ∃ x y f, e = .returned (.tuple #[.string x, .string y, .bool f]) /\ Idn.cut3 s.data.toList c = (x.data.toList, y.data.toList, f) /\ x.size <= s.size /\ y.size <= s.size /\ Gr w w') := cut_any s c w hs
 have HN : Hid (∀ (x : ByteArray) (w' : World), x.size <= s.size -> Gr w w' -> Calls Tryz.prog 167 #[.string x] w' fun e w2 => e = .returned (.int .i64 (numE x.data.toList)) /\ Gr w' w2) := fun x w' hx g => readNumber_any x w' (by omega) (he.gr g)
 have HP : Hid (pairE s.data.toList c = (numE (Idn.cut3 s.data.toList c).1, numE (Idn.cut3 s.data.toList c).2.1)) := rfl
 clear he
 go_enter Tryz.func150, Tryz.ntmps150
 go_wp2_with fail
 refine HC.out.mono ?_
 rintro e1 w1 ⟨x, y, f, rfl, hc, hx, hy, hg⟩
 have HQ : Hid (pairE s.data.toList c = (numE x.data.toList, numE y.data.toList)) := by show _ = _; rw [HP.out, hc]
 clear hc
 go_wp2_with fail
 refine (HN.out _ _ hx (by repeat(first|exact Gr.r _|refine Gr.a ?_|refine Gr.d ?_|refine Gr.t ?_ (by assumption)))).mono ?_
 rintro e2 w2 ⟨rfl, hg2⟩
 go_wp2_with fail
 refine (HN.out _ _ hy (by repeat(first|exact Gr.r _|refine Gr.a ?_|refine Gr.d ?_|refine Gr.t ?_ (by assumption)))).mono ?_
 rintro e3 w3 ⟨rfl, hg3⟩
 go_wp2
 go_ret2
 exact ⟨by rw [HQ.out]; rfl, (by repeat(first|exact Gr.r _|refine Gr.a ?_|refine Gr.d ?_|refine Gr.t ?_ (by assumption)))⟩
end Go.Proofs.YthaadiclopoamaaGreatDoor
/- read: the only id whose text a text could be. -/
set_option maxRecDepth 100000
set_option maxHeartbeats 8000000
namespace Go.Proofs.YthaadiclopoamaaGreatDoor
open Go.RowKit

def readH : Nat -> List UInt8 -> Bool -> List (Int × Int)
 | 0, _, _ => []
 | _ + 1, _, false => []
 | k + 1, l, true => pairE (Idn.cut3 l 47).1 64 :: readH k (Idn.cut3 l 47).2.1 (Idn.cut3 l 47).2.2
def readL (l : List UInt8) : List (Int × Int) := readH 4 (Idn.cut3 l 47).2.1 (Idn.cut3 l 47).2.2
def readR (l : List UInt8) : Int × Int := pairE (Idn.cut3 l 47).1 46
theorem readH_len (k : Nat) : ∀ (l : List UInt8) (m : Bool), (readH k l m).length <= k := by
 induction k with
 | zero => intro l m; simp [readH]
 | succ k ih =>
  intro l m
  cases m with
  | false => simp [readH]
  | true => rw [readH, List.length_cons]; have := ih (Idn.cut3 l 47).2.1 (Idn.cut3 l 47).2.2; omega

def lenCell : Option Value -> Nat
 | some (.slice _ n _) => n
 | _ => 0
theorem hops_lit1' (w : World) (a b : Int) (t : TypeId) : HopsAt (w.alloc (.cells #[.int .i64 a, .int .i64 b] t)) (some ⟨w.heap.size, 0, none⟩) [(a, b)] := by
 intro j hj
 obtain rfl : j = 0 := by simpa using hj
 exact ⟨_, _, rfl, by simp, by simp, by simp⟩
theorem grownBy_set (w : World) (p : Addr) (u : Value) : w.grownBy (w.setCell p u) (some p.block) :=
 ⟨rfl, rfl, rfl, by simp [World.setCell], fun k _ hk => Below.heap_setCell _ _ _ _ (fun e => hk (by rw [e]))⟩
theorem BoxAt.below {w w' : World} {g B : Nat} {a b c : Value} (h : BoxAt w g a b c) (k : Below B w w') (hB : g < B) : BoxAt w' g a b c :=
 ⟨(k.cell (p := ⟨g, 0, none⟩) hB).trans h.c0, (k.cell (p := ⟨g, 1, none⟩) hB).trans h.c1, (k.cell (p := ⟨g, 2, none⟩) hB).trans h.c2, (k.frozen (p := ⟨g, 0, none⟩) hB).trans h.f0, (k.frozen (p := ⟨g, 1, none⟩) hB).trans h.f1, (k.frozen (p := ⟨g, 2, none⟩) hB).trans h.f2, Nat.lt_of_lt_of_le h.lt k.size⟩
theorem BoxAt.set2 {w : World} {g : Nat} {a b c : Value} (h : BoxAt w g a b c) (u : Value) : BoxAt (w.setCell ⟨g, 2, none⟩ u) g a b u := by
 obtain ⟨c0, c1, c2, f0, f1, f2, lt⟩ := h
 exact ⟨by simp [go_sem, c0], by simp [go_sem, c1], by simp [go_sem, c2], by simp [go_sem, f0], by simp [go_sem, f1], by simp [go_sem, f2], by simpa using lt⟩
theorem BoxAt.setFar {w : World} {g : Nat} {a b c : Value} (h : BoxAt w g a b c) (p : Addr) (u : Value) (hp : p.block ≠ g) : BoxAt (w.setCell p u) g a b c := by
 obtain ⟨c0, c1, c2, f0, f1, f2, lt⟩ := h
 refine ⟨?_, ?_, ?_, ?_, ?_, ?_, by simpa using lt⟩
 ·rw [World.cell?_setCell_far _ _ _ _ (by simpa using hp)]; exact c0
 ·rw [World.cell?_setCell_far _ _ _ _ (by simpa using hp)]; exact c1
 ·rw [World.cell?_setCell_far _ _ _ _ (by simpa using hp)]; exact c2
 ·rw [World.frozen?_setCell]; exact f0
 ·rw [World.frozen?_setCell]; exact f1
 ·rw [World.frozen?_setCell]; exact f2

theorem read_any (s : ByteArray) (w : World) (hs : s.size <= 140737488355328) (he : Env w) :
  Calls Tryz.prog 130 #[.string s] w fun e w' => ∃ ad2 cap2, e = .returned (.agg #[.int .i64 (readR s.data.toList).1, .int .i64 (readR s.data.toList).2, .slice ad2 (readL s.data.toList).length cap2]) /\ (readL s.data.toList).length <= cap2 /\ HopsAt w' ad2 (readL s.data.toList) /\ (∀ a, ad2 = some a -> w.heap.size <= a.block) /\ Gr w w' := by
 obtain ⟨i0, hi, hz0, hz1, hz2⟩ := info_parts infoHop
 have HC : Hid (∀ (x : ByteArray) (c : UInt8) (w' : World), x.size <= s.size -> Calls Tryz.prog 149 #[.string x, .string ⟨#[c]⟩] w' fun e w2 => ∃ p q f, e = .returned (.tuple #[.string p, .string q, .bool f]) /\ Idn.cut3 x.data.toList c = (p.data.toList, q.data.toList, f) /\ p.size <= x.size /\ q.size <= x.size /\ Gr w' w2) := fun x c w' hx => cut_any x c w' (by omega)
 have HP : Hid (∀ (x : ByteArray) (c : UInt8) (w' : World), x.size <= s.size -> Gr w w' -> Calls Tryz.prog 150 #[.string x, .string ⟨#[c]⟩] w' fun e w2 => e = .returned (.tuple #[.int .i64 (pairE x.data.toList c).1, .int .i64 (pairE x.data.toList c).2]) /\ Gr w' w2) := fun x c w' hx g => readPair_any x c w' (by omega) (he.gr g)
 clear he
 have HRL : Hid (readL s.data.toList = readH 4 (Idn.cut3 s.data.toList 47).2.1 (Idn.cut3 s.data.toList 47).2.2) := rfl
 have HRR : Hid (readR s.data.toList = pairE (Idn.cut3 s.data.toList 47).1 46) := rfl
 go_enter Tryz.func130, Tryz.ntmps130
 go_wp2_with fail
 refine (HC.out s 47 _ (Nat.le_refl _)).mono ?_
 rintro e1 w1 ⟨p1, q1, f1, rfl, hc1, hp1, hq1, hg1⟩
 have HRL2 : Hid (readL s.data.toList = readH 4 q1.data.toList f1) := by show _ = _; rw [HRL.out, hc1]
 have HRR2 : Hid (readR s.data.toList = pairE p1.data.toList 46) := by show _ = _; rw [HRR.out, hc1]
 have hb1 : BoxAt w1 w.heap.size (.int .i64 0) (.int .i64 0) (.slice none 0 0) := (BoxAt.new w _ _ _ 24 _ rfl).gr hg1
 clear hc1 HRL HRR
 go_wp2_with fail
 refine (HP.out p1 46 _ hp1 (by repeat(first|exact Gr.r _|refine Gr.a ?_|refine Gr.d ?_|refine Gr.t ?_ (by assumption)))).mono ?_
 rintro e2 w2 ⟨rfl, hg2⟩
 have hb2 := hb1.gr hg2
 have HB2 : Hid (BoxAt w2 w.heap.size (.int .i64 0) (.int .i64 0) (.slice none 0 0)) := hb2
 have HG2 : Hid (Gr w w2) := (by repeat(first|exact Gr.r _|refine Gr.a ?_|refine Gr.d ?_|refine Gr.t ?_ (by assumption)))
 have hs2 : w.heap.size < w2.heap.size := hb2.lt
 obtain ⟨⟨r, n⟩, hrn⟩ : ∃ x, pairE p1.data.toList 46 = x := ⟨_, rfl⟩
 rw [hrn]
 simp only
 have HRR3 : Hid (readR s.data.toList = (r, n)) := by show _ = _; rw [HRR2.out, hrn]
 clear hb1 hb2 HRR2 hrn hg1 hg2
 go_wp2
 go_loopw [4, 5] (fun q f wr => ∃ (L : List (Int × Int)) (qb : ByteArray) (fb : Bool) (ad : Option Addr) (cap : Nat), L.length <= 4 /\ q = .string qb /\ f = .bool fb /\ qb.size <= s.size /\ BoxAt wr w.heap.size (.int .i64 0) (.int .i64 0) (.slice none 0 0) /\ BoxAt wr w2.heap.size (.int .i64 r) (.int .i64 n) (.slice ad L.length cap) /\ wr.ownsRow (w2.heap.size + 1) 85 2 (.slice ad L.length cap) L.length (hopV L) /\ readL s.data.toList = L ++ readH (4 - L.length) qb.data.toList fb /\ Gr w wr)
  (fun _ _ wr => 4 - lenCell (wr.cell? ⟨w2.heap.size, 2, none⟩))
 case atStart => exact ⟨[], q1, f1, none, 0, by simp, rfl, rfl, hq1, HB2.out.gr (Gr.refl _).alloc, BoxAt.new _ _ _ _ _ _ rfl, World.ownsRow_nil _ _ _ _, HRL2.out, HG2.out.alloc⟩
 case round =>
  obtain ⟨L, qb, fb, ad, cap, hl4, rfl, rfl, hqs, hbx, hby, hown, hrd, hg⟩ := hrel
  have HRD : Hid (readL s.data.toList = L ++ readH (4 - L.length) qb.data.toList fb) := hrd
  have HBX : Hid (BoxAt wr w.heap.size (.int .i64 0) (.int .i64 0) (.slice none 0 0)) := hbx
  have HBY : Hid (BoxAt wr w2.heap.size (.int .i64 r) (.int .i64 n) (.slice ad L.length cap)) := hby
  obtain ⟨y0, y1, y2, g0, g1, g2, ylt⟩ := hby
  have hlc : lenCell (wr.cell? ⟨w2.heap.size, 2, none⟩) = L.length := by rw [y2]; rfl
  clear hrd hbx HRL2
  by_cases hgo : fb = true /\ L.length < 4
  ·obtain ⟨rfl, h4⟩ := hgo
   have h4i : (L.length : Int) < 4 := by omega
   go_wp2_with fail
   refine (HC.out qb 47 _ hqs).mono ?_
   rintro e3 w3 ⟨p3, q3, f3, rfl, hc3, hp3, hq3, hg3⟩
   have HRD2 : Hid (readL s.data.toList = (L ++ [pairE p3.data.toList 64]) ++ readH (4 - (L.length + 1)) q3.data.toList f3) := by
    show _ = _
    rw [HRD.out, show 4 - L.length = (4 - (L.length + 1)) + 1 by omega, readH, hc3]
    simp
   clear hc3 HRD
   go_wp2_with fail
   refine (HP.out p3 64 _ (by omega) (by repeat(first|exact Gr.r _|refine Gr.a ?_|refine Gr.d ?_|refine Gr.t ?_ (by assumption)))).mono ?_
   rintro e4 w4 ⟨rfl, hg4⟩
   have hg5 : Gr wr w4 := (by repeat(first|exact Gr.r _|refine Gr.a ?_|refine Gr.d ?_|refine Gr.t ?_ (by assumption)))
   obtain ⟨⟨x1, x2⟩, hx⟩ : ∃ x, pairE p3.data.toList 64 = x := ⟨_, rfl⟩
   rw [hx]
   simp only
   have HRD3 : Hid (readL s.data.toList = (L ++ [(x1, x2)]) ++ readH (4 - (L.length + 1)) q3.data.toList f3) := by show _ = _; rw [HRD2.out, hx]
   have HBX4 : Hid (BoxAt w4 w.heap.size (.int .i64 0) (.int .i64 0) (.slice none 0 0)) := HBX.out.gr hg5
   have HBY4 : Hid (BoxAt w4 w2.heap.size (.int .i64 r) (.int .i64 n) (.slice ad L.length cap)) := HBY.out.gr hg5
   have hown4 := hown.kept hg5.grownBy (own_or _)
   obtain ⟨z0, z1, z2, k0, k1, k2, zlt⟩ := HBY4.out
   have HG4 : Hid (Gr w w4) := (by repeat(first|exact Gr.r _|refine Gr.a ?_|refine Gr.d ?_|refine Gr.t ?_ (by assumption)))
   have hm1 : L.length + 1 <= maxLen := by unfold maxLen; omega
   have hw4 : w2.heap.size + 1 <= w4.heap.size := by omega
   have hnews : ∀ j u, (hopV [(x1, x2)])[j]? = some u -> (w4.alloc (.cells #[.int .i64 x1, .int .i64 x2] 85)).cell? ((⟨w4.heap.size, 0, none⟩ : Addr).add j) = some u := (hops_lit1' w4 x1 x2 85).news
   have HN : Hid (∀ j u, (hopV [(x1, x2)])[j]? = some u -> (w4.alloc (.cells #[.int .i64 x1, .int .i64 x2] 85)).cell? ((⟨w4.heap.size, 0, none⟩ : Addr).add j) = some u) := hnews
   clear hnews hx HRD2 HBX HBY hg3 hg4 y0 y1 y2 g0 g1 g2 hown
   go_wp2_with (first
    | (at_builtin; refine wpList_append_own _ rfl _ _ 22 rfl (w2.heap.size + 1) 85 i0 (.agg #[.int .i64 0, .int .i64 0]) 2 16 Tryz.underlying22 hi hz0 hz1 hz2 rfl (by decide) _ _ _ rfl (hown4.alloc _) ⟨w4.heap.size, 0, none⟩ 1 1 (hopV [(x1, x2)]) rfl rfl HN.out (hopV_one _) hm1 (by omega) (by simp; omega) ?_)
    | fail)
   intro v' w5 hown5 hgrow _
   have hb5 : Below (w2.heap.size + 1) (w4.alloc (.cells #[.int .i64 x1, .int .i64 x2] 85)) w5 := (Below.refl _ _).grown hgrow (by simp; omega) (fun k hk => (hown4.lt k hk).1)
   have key : ∀ {u : Value}, w5.ownsRow (w2.heap.size + 1) 85 2 u (L.length + 1) (hopV L ++ hopV [(x1, x2)]) -> ∃ ad2 cap2, u = .slice ad2 (L.length + 1) cap2 := by
    intro u hu
    rw [<- hopV_app] at hu
    obtain ⟨ad2, cap2, h, _⟩ := own_hops (L := L ++ [(x1, x2)]) (by rw [List.length_append]; exact hu)
    rw [List.length_append] at h
    exact ⟨ad2, cap2, h⟩
   obtain ⟨ad5, cap5, rfl⟩ := key hown5
   have HBX5 : Hid (BoxAt w5 w.heap.size (.int .i64 0) (.int .i64 0) (.slice none 0 0)) := (HBX4.out.gr (Gr.refl _).alloc).below hb5 (by omega)
   have HBY5 : Hid (BoxAt w5 w2.heap.size (.int .i64 r) (.int .i64 n) (.slice ad L.length cap)) := (HBY4.out.gr (Gr.refl _).alloc).below hb5 (by omega)
   have HG5 : Hid (Gr w w5) := ⟨(HG4.out.alloc).below.trans (hb5.mono (by omega))⟩
   obtain ⟨v0, v1, v2, j0, j1, j2, vlt⟩ := HBY5.out
   have HO5 : Hid (w5.ownsRow (w2.heap.size + 1) 85 2 (.slice ad5 (L.length + 1) cap5) (L.length + 1) (hopV L ++ hopV [(x1, x2)])) := hown5
   clear hown5 hown4 z0 z1 z2 k0 k1 k2 hgrow key
   go_wp2
   go_roundw
   case rel =>
    refine ⟨L ++ [(x1, x2)], q3, f3, ad5, cap5, by simp; omega, rfl, rfl, by omega, HBX5.out.setFar _ _ (by simp; omega), ?_, ?_, ?_, ?_⟩
    ·rw [List.length_append]; exact HBY5.out.set2 _
    ·rw [List.length_append, hopV_app]
     exact HO5.out.kept (grownBy_set _ _ _) (Or.inr (fun e => by have := HO5.out.lt _ e; simp at this; omega))
    ·rw [List.length_append]; exact HRD3.out
    ·exact HG5.out.set _ (by simp; omega) _
   case measure =>
    rw [hlc]
    have : lenCell ((w5.setCell ⟨w2.heap.size, 2, none⟩ (.slice ad5 (L.length + 1) cap5)).cell? ⟨w2.heap.size, 2, none⟩) = L.length + 1 := by rw [(HBY5.out.set2 _).c2]; rfl
    rw [this]; omega
  ·have HF : Hid (readL s.data.toList = L) := by
    show _ = _
    rw [HRD.out]
    cases fb with
    | false =>
     have : readH (4 - L.length) qb.data.toList false = [] := by cases 4 - L.length <;> rfl
     rw [this]; simp
    | true =>
     have : L.length = 4 := by
      have : ¬ L.length < 4 := fun h => hgo ⟨rfl, h⟩
      omega
     rw [this]; simp [readH]
   have HH : Hid (HopsAt wr ad L /\ L.length <= cap /\ ∀ a, ad = some a -> w2.heap.size + 1 <= a.block) := by
    obtain ⟨ad', cap', h, h1, h2, h3⟩ := own_hops hown
    simp at h
    obtain ⟨rfl, rfl⟩ := h
    exact ⟨h2, h1, h3⟩
   obtain ⟨x0, x1, x2, j0, j1, j2, xlt⟩ := HBX.out
   cases fb with
   | false =>
    clear hown
    go_wp2
    obtain ⟨hia, hcp, hfr⟩ := HH.out
    rw [HRR3.out, HF.out]
    exact bodyPost_ret (v := .agg #[.int .i64 r, .int .i64 n, .slice ad L.length cap]) (by simp [results, Tryz.results130, go_sem, x0, x1, x2]) rfl ⟨ad, cap, rfl, hcp, (by (repeat' (first | with_reducible exact hia | with_reducible refine HopsAt.set ?_ _ _ ?_ | with_reducible refine HopsAt.alloc ?_ | with_reducible refine HopsAt.drew ?_)) <;> (intro a e; have := hfr a e; simp at this ⊢; omega)), fun a e => by have := hfr a e; omega, (by (with_reducible repeat' (first | exact Gr.refl _ | refine Gr.set ?_ _ ?_ _ | refine Gr.alloc ?_ | refine Gr.drew ?_ | refine Gr.trans ?_ (by assumption))) <;> (first | (simp; done) | (simp; omega) | omega))⟩
   | true =>
    have h4 : ¬ ((L.length : Int) < 4) := by
     have : ¬ L.length < 4 := fun h => hgo ⟨rfl, h⟩
     omega
    clear hown
    go_wp2
    obtain ⟨hia, hcp, hfr⟩ := HH.out
    rw [HRR3.out, HF.out]
    exact bodyPost_ret (v := .agg #[.int .i64 r, .int .i64 n, .slice ad L.length cap]) (by simp [results, Tryz.results130, go_sem, x0, x1, x2]) rfl ⟨ad, cap, rfl, hcp, (by (repeat' (first | with_reducible exact hia | with_reducible refine HopsAt.set ?_ _ _ ?_ | with_reducible refine HopsAt.alloc ?_ | with_reducible refine HopsAt.drew ?_)) <;> (intro a e; have := hfr a e; simp at this ⊢; omega)), fun a e => by have := hfr a e; omega, (by (with_reducible repeat' (first | exact Gr.refl _ | refine Gr.set ?_ _ ?_ _ | refine Gr.alloc ?_ | refine Gr.drew ?_ | refine Gr.trans ?_ (by assumption))) <;> (first | (simp; done) | (simp; omega) | omega))⟩
end Go.Proofs.YthaadiclopoamaaGreatDoor
/- Tokens in memory; where a text has been read to. -/
set_option maxRecDepth 100000
set_option maxHeartbeats 8000000
namespace Go.Proofs.YthaadiclopoamaaGreatDoor
open Go.RowKit
open Lex (Tok)

def tokC (x : Tok) : List Value := [.int .i64 x.k, .string x.t, .int .i64 x.p]
def tokV (L : List Tok) : List Value := L.flatMap tokC
theorem tokV_app (L M : List Tok) : tokV (L ++ M) = tokV L ++ tokV M := by simp [tokV]
theorem tokV_get (L : List Tok) : ∀ j (h : j < L.length), (tokV L)[j * 3]? = some (.int .i64 L[j].k) /\ (tokV L)[j * 3 + 1]? = some (.string L[j].t) /\ (tokV L)[j * 3 + 2]? = some (.int .i64 L[j].p) := by
 induction L with
 | nil => intro j h; simp at h
 | cons x t ih =>
  intro j h
  have e : tokV (x :: t) = .int .i64 x.k :: .string x.t :: .int .i64 x.p :: tokV t := rfl
  rw [e]
  cases j with
  | zero => exact ⟨rfl, rfl, rfl⟩
  | succ j =>
   obtain ⟨h1, h2, h3⟩ := ih j (by simpa using h)
   rw [show (j + 1) * 3 = j * 3 + 1 + 1 + 1 by omega]
   refine ⟨by simpa using h1, ?_, ?_⟩
   ·rw [show j * 3 + 1 + 1 + 1 + 1 = (j * 3 + 1) + 1 + 1 + 1 by omega]; simpa using h2
   ·rw [show j * 3 + 1 + 1 + 1 + 2 = (j * 3 + 2) + 1 + 1 + 1 by omega]; simpa using h3
theorem tokV_one (L : List Tok) : ∀ u ∈ tokV L, u.oneCell' = true := by
 intro u hu
 simp only [tokV, List.mem_flatMap] at hu
 obtain ⟨h, _, hu⟩ := hu
 simp [tokC] at hu
 rcases hu with rfl | rfl | rfl <;> rfl

/- a row of tokens in memory, its address whatever where there is none -/
def ToksAt (w : World) (ad : Option Addr) (L : List Tok) : Prop :=
 ∀ j (h : j < L.length), ∃ b off, ad = some ⟨b, off, none⟩ /\ b < w.heap.size /\ w.cell? ⟨b, off + j * 3, none⟩ = some (.int .i64 L[j].k) /\ w.cell? ⟨b, off + j * 3 + 1, none⟩ = some (.string L[j].t) /\ w.cell? ⟨b, off + j * 3 + 2, none⟩ = some (.int .i64 L[j].p)
theorem ToksAt.gr {w w' : World} {ad : Option Addr} {L : List Tok} (h : ToksAt w ad L) (g : Gr w w') : ToksAt w' ad L := by
 intro j hj
 obtain ⟨b, off, e, hb, h1, h2, h3⟩ := h j hj
 exact ⟨b, off, e, Nat.lt_of_lt_of_le hb g.size, g.keep h1, g.keep h2, g.keep h3⟩
theorem ToksAt.nil {w : World} {ad : Option Addr} : ToksAt w ad [] := fun j h => absurd h (by simp)
theorem ToksAt.take {w : World} {ad : Option Addr} {L : List Tok} (h : ToksAt w ad L) (k : Nat) : ToksAt w ad (L.take k) := by
 intro j hj
 have hj' : j < L.length := by rw [List.length_take] at hj; omega
 obtain ⟨b, off, e, hb, h1, h2, h3⟩ := h j hj'
 refine ⟨b, off, e, hb, ?_, ?_, ?_⟩ <;> rw [List.getElem_take] <;> assumption
theorem ToksAt.setFar {w : World} {ad : Option Addr} {L : List Tok} (h : ToksAt w ad L) (p : Addr) (v : Value) (hp : ∀ a, ad = some a -> p.block ≠ a.block) : ToksAt (w.setCell p v) ad L := by
 intro j hj
 obtain ⟨b, off, e, hb, h1, h2, h3⟩ := h j hj
 have hne : p.block ≠ b := hp _ e
 refine ⟨b, off, e, by simpa using hb, ?_, ?_, ?_⟩ <;> rw [World.cell?_setCell_far _ _ _ _ (by simpa using hne)] <;> assumption
/- a row of tokens that the call owns -/
theorem own_toks {base : Nat} {v : Value} {L : List Tok} {w : World} (h : w.ownsRow base 167 3 v L.length (tokV L)) : ∃ ad cap, v = .slice ad L.length cap /\ L.length <= cap /\ ToksAt w ad L /\ ∀ a, ad = some a -> base <= a.block := by
 have hcell := fun g (hg : v.ownBlock = some g) => h.cells hg
 have hlt := h.lt
 obtain ⟨_, ⟨rfl, h0⟩ | ⟨g, cap, cur, rfl, hx⟩⟩ := h
 ·have : L = [] := List.length_eq_zero_iff.1 h0
  subst this
  exact ⟨none, 0, rfl, by simp, ToksAt.nil, fun a e => by cases e⟩
 ·refine ⟨some ⟨g, 0, none⟩, cap, rfl, hx.2.2.1, ?_, fun a e => by cases e; exact (hlt g rfl).1⟩
  intro j hj
  obtain ⟨g1, g2, g3⟩ := tokV_get L j hj
  have c1 := hcell g rfl _ _ g1
  have c2 := hcell g rfl _ _ g2
  have c3 := hcell g rfl _ _ g3
  rw [Addr.add_lit] at c1 c2 c3
  rw [<- Nat.add_assoc] at c2 c3
  exact ⟨g, 0, rfl, (hlt g rfl).2, c1, c2, c3⟩
theorem toks_lit1 (w : World) (x : Tok) (t : TypeId) : ∀ j u, (tokV [x])[j]? = some u -> (w.alloc (.cells #[.int .i64 x.k, .string x.t, .int .i64 x.p] t)).cell? ((⟨w.heap.size, 0, none⟩ : Addr).add j) = some u := by
 intro j u hu
 have hj : j < 3 := by
  have := (List.getElem?_eq_some_iff.1 hu).1
  simpa [tokV, tokC] using this
 rw [Addr.add_lit]
 match j, hj with
 | 0, _ => simp [tokV, tokC] at hu; subst hu; simp
 | 1, _ => simp [tokV, tokC] at hu; subst hu; simp
 | 2, _ => simp [tokV, tokC] at hu; subst hu; simp
theorem infoTok : (Tryz.prog.info? 167).map (fun i => (i.zero, i.size, i.bytes)) = some (some (.agg #[.int .i64 0, .string ⟨#[]⟩, .int .i64 0]), 3, 32) := by kernel_rfl
theorem info_parts3 {t : TypeId} {z : Value} {n b : Nat} (h : (Tryz.prog.info? t).map (fun i => (i.zero, i.size, i.bytes)) = some (some z, n, b)) : ∃ i, Tryz.prog.info? t = some i /\ i.zero = some z /\ i.size = n /\ i.bytes = b := by
 cases hi : Tryz.prog.info? t with
 | none => rw [hi] at h; cases h
 | some i => rw [hi] at h; simp at h; exact ⟨i, rfl, h.1, h.2.1, h.2.2⟩

/- a text's place: its text, how far it has been read -/
structure PlAt (w : World) (b : Nat) (s : ByteArray) (k : Nat) : Prop where
 c0 : w.cell? ⟨b, 0, none⟩ = some (.string s)
 c1 : w.cell? ⟨b, 1, none⟩ = some (.int .i64 (k : Int))
 f1 : w.frozen? ⟨b, 1, none⟩ = false
 lt : b < w.heap.size
theorem PlAt.gr {w w' : World} {b : Nat} {s : ByteArray} {k : Nat} (h : PlAt w b s k) (g : Gr w w') : PlAt w' b s k :=
 ⟨g.keep h.c0, g.keep h.c1, g.keepF h.lt h.f1, Nat.lt_of_lt_of_le h.lt g.size⟩
theorem PlAt.set {w : World} {b : Nat} {s : ByteArray} {k : Nat} (h : PlAt w b s k) (m : Nat) : PlAt (w.setCell ⟨b, 1, none⟩ (.int .i64 (m : Int))) b s m := by
 obtain ⟨h0, h1, h2, hl⟩ := h
 exact ⟨by simp [go_sem, *], by simp [go_sem, *], by simp [go_sem, *], by simpa using hl⟩
/- nothing has turned but that place's number -/
structure PO (b : Nat) (w w' : World) : Prop where
 grown : w.grownBy w' (some b)
 cell : ∀ o, o ≠ 1 -> b < w.heap.size -> w'.cell? ⟨b, o, none⟩ = w.cell? ⟨b, o, none⟩
 froz : ∀ o, b < w.heap.size -> w'.frozen? ⟨b, o, none⟩ = w.frozen? ⟨b, o, none⟩
theorem PO.ofGr {b : Nat} {w w' : World} (g : Gr w w') : PO b w w' :=
 ⟨⟨g.below.os, g.below.tape, g.below.output, g.size, fun k hk _ => g.below.block k hk⟩, fun o _ hb => g.below.cell (p := ⟨b, o, none⟩) hb, fun o hb => g.below.frozen (p := ⟨b, o, none⟩) hb⟩
theorem PO.size {b : Nat} {w w' : World} (h : PO b w w') : w.heap.size <= w'.heap.size := h.grown.size
theorem PO.trans {b : Nat} {u v w : World} (h : PO b u v) (k : PO b v w) : PO b u w := by
 have hs := h.size
 refine ⟨⟨?_, ?_, ?_, Nat.le_trans h.size k.size, ?_⟩, fun o ho hb => (k.cell o ho (by omega)).trans (h.cell o ho hb), fun o hb => (k.froz o (by omega)).trans (h.froz o hb)⟩
 ·exact k.grown.os.trans h.grown.os
 ·exact k.grown.tape.trans h.grown.tape
 ·exact k.grown.output.trans h.grown.output
 ·intro i hi hne
  exact (k.grown.block i (by omega) hne).trans (h.grown.block i hi hne)
theorem PO.set {b : Nat} (w : World) (v : Value) : PO b w (w.setCell ⟨b, 1, none⟩ v) :=
 ⟨⟨rfl, rfl, rfl, by simp [World.setCell], fun k _ hk => Below.heap_setCell _ _ _ _ (fun e => hk (by rw [e]))⟩, fun o ho _ => by rw [World.cell?_setCell_other]; intro e; exact ho (by cases e; rfl), fun o _ => by rw [World.frozen?_setCell]⟩
theorem Gr.po {b : Nat} {a w w' : World} (g : Gr a w) (h : PO b w w') (hb : a.heap.size <= b) : Gr a w' := ⟨g.below.grown h.grown g.size (fun k e => by cases e; exact hb)⟩
theorem PO.keep {b : Nat} {w w' : World} (h : PO b w w') {g o : Nat} {v : Value} (hg : g < w.heap.size) (hne : g ≠ b) (hc : w.cell? ⟨g, o, none⟩ = some v) : w'.cell? ⟨g, o, none⟩ = some v := by
 rw [<- hc]; exact World.cell?_of_block (w := w) (h.grown.block g hg (by simp; omega))
theorem PO.keepF {b : Nat} {w w' : World} (h : PO b w w') {g o : Nat} {v : Bool} (hg : g < w.heap.size) (hne : g ≠ b) (hc : w.frozen? ⟨g, o, none⟩ = v) : w'.frozen? ⟨g, o, none⟩ = v := by
 rw [<- hc]; exact World.frozen?_of_block (w := w) (h.grown.block g hg (by simp; omega))
end Go.Proofs.YthaadiclopoamaaGreatDoor
/- act: names; and the document's. -/
set_option maxRecDepth 100000
set_option maxHeartbeats 8000000
namespace Go.Proofs.YthaadiclopoamaaGreatDoor
open Go.RowKit

theorem aLetter_any (b : UInt8) (w : World) : Calls Tryz.prog 84 #[.int .u8 (b.toNat : Int)] w fun e w' => e = .returned (.bool (Act.letB b)) /\ w' = w := by
 unfold Act.letB
 by_cases h0 : (97 : Int) <= (b.toNat : Int)
 ·by_cases h1 : (b.toNat : Int) <= 122
  ·rw [decide_eq_true h0, decide_eq_true h1]
   go_enter Tryz.func84, Tryz.ntmps84
   go_wp2
   go_ret
   exact ⟨rfl, rfl⟩
  ·rw [decide_eq_true h0, decide_eq_false h1]
   go_enter Tryz.func84, Tryz.ntmps84
   go_wp2
   go_ret
   exact ⟨rfl, rfl⟩
 ·rw [decide_eq_false h0]
  go_enter Tryz.func84, Tryz.ntmps84
  go_wp2
  go_ret
  exact ⟨rfl, rfl⟩
theorem aDigit_any (b : UInt8) (w : World) : Calls Tryz.prog 85 #[.int .u8 (b.toNat : Int)] w fun e w' => e = .returned (.bool (Act.digB b)) /\ w' = w := by
 unfold Act.digB
 by_cases h0 : (48 : Int) <= (b.toNat : Int)
 ·by_cases h1 : (b.toNat : Int) <= 57
  ·rw [decide_eq_true h0, decide_eq_true h1]
   go_enter Tryz.func85, Tryz.ntmps85
   go_wp2
   go_ret
   exact ⟨rfl, rfl⟩
  ·rw [decide_eq_true h0, decide_eq_false h1]
   go_enter Tryz.func85, Tryz.ntmps85
   go_wp2
   go_ret
   exact ⟨rfl, rfl⟩
 ·rw [decide_eq_false h0]
  go_enter Tryz.func85, Tryz.ntmps85
  go_wp2
  go_ret
  exact ⟨rfl, rfl⟩

theorem name_any (s : ByteArray) (w : World) (hs : s.size <= 9223372036854775807) : Calls Tryz.prog 60 #[.string s] w fun e w' => e = .returned (.bool (Act.nameB s)) /\ w' = w := by
 by_cases hz : s.size = 0
 ·have HE : Hid (Act.nameB s = false) := Act.name_empty s hz
  have hb : (s.toList == []) = true := by
   rw [show s.toList = s.data.toList from ByteArray.toList_eq s]
   have hl : s.data.toList.length = s.size := by simp
   rw [List.length_eq_zero_iff.1 (hl.trans hz)]; rfl
  go_enter Tryz.func60, Tryz.ntmps60
  go_wp2
  go_ret
  exact ⟨by rw [HE.out]; rfl, rfl⟩
 have hb : (s.toList == []) = false := by
  rw [show s.toList = s.data.toList from ByteArray.toList_eq s]
  have hl : s.data.toList.length = s.size := by simp
  rw [beq_eq_false_iff_ne]
  intro e; rw [e] at hl; simp at hl; omega
 have hp : 0 < s.size := by omega
 by_cases h16 : (16 : Int) < (s.size : Int)
 ·have HE : Hid (Act.nameB s = false) := Act.name_long s (by omega)
  go_enter Tryz.func60, Tryz.ntmps60
  go_wp2
  go_ret
  exact ⟨by rw [HE.out]; rfl, rfl⟩
 have HL : Hid (∀ (b : UInt8) (w : World), Calls Tryz.prog 84 #[.int .u8 (b.toNat : Int)] w fun e w' => e = .returned (.bool (Act.letB b)) /\ w' = w) := aLetter_any
 have HD : Hid (∀ (b : UInt8) (w : World), Calls Tryz.prog 85 #[.int .u8 (b.toNat : Int)] w fun e w' => e = .returned (.bool (Act.digB b)) /\ w' = w) := aDigit_any
 cases h0 : Act.letB (s[0]'hp) with
 | false =>
  have HE : Hid (Act.nameB s = false) := Act.name_head s hp h0
  go_enter Tryz.func60, Tryz.ntmps60
  go_wp2_with fail
  refine (HL.out (s[0]'hp) _).mono ?_
  rintro e w1 ⟨rfl, hw1⟩; obtain rfl := hw1.symm
  go_wp2
  go_ret
  exact ⟨by rw [HE.out]; rfl, rfl⟩
 | true =>
  go_enter Tryz.func60, Tryz.ntmps60
  go_wp2_with fail
  refine (HL.out (s[0]'hp) _).mono ?_
  rintro e w1 ⟨rfl, hw1⟩; obtain rfl := hw1.symm
  go_wp2
  go_loop [19] (fun i => ∃ k : Nat, k <= s.size /\ i = .int .i64 k /\ ∀ j (hj : j < s.size), j < k -> Act.sgnB (s[j]'hj) = true) (fun i => s.size - (intOf i).toNat)
  case atStart => exact ⟨0, by omega, rfl, fun j hj h => absurd h (by omega)⟩
  case round =>
   obtain ⟨k, hk, rfl, hall⟩ := hrel
   have HA : Hid (∀ j (hj : j < s.size), j < k -> Act.sgnB (s[j]'hj) = true) := hall
   clear hall
   by_cases hlt : k < s.size
   ·cases hlk : Act.letB (s[k]'hlt) with
    | true =>
     have HS : Hid (Act.sgnB (s[k]'hlt) = true) := Act.sgn_let hlk
     go_wp2_with fail
     refine (HL.out (s[k]'hlt) _).mono ?_
     rintro e w1 ⟨rfl, hw1⟩; obtain rfl := hw1.symm
     go_wp2
     go_round
     case rel => exact ⟨k + 1, by omega, by go_num, fun j hj h => if e : j = k then by subst e; exact HS.out else HA.out j hj (by omega)⟩
     case measure => simp [intOf]; omega
    | false =>
     cases hdk : Act.digB (s[k]'hlt) with
     | true =>
      have HS : Hid (Act.sgnB (s[k]'hlt) = true) := Act.sgn_dig hdk
      go_wp2_with fail
      refine (HL.out (s[k]'hlt) _).mono ?_
      rintro e w1 ⟨rfl, hw1⟩; obtain rfl := hw1.symm
      go_wp2_with fail
      refine (HD.out (s[k]'hlt) _).mono ?_
      rintro e w1 ⟨rfl, hw1⟩; obtain rfl := hw1.symm
      go_wp2
      go_round
      case rel => exact ⟨k + 1, by omega, by go_num, fun j hj h => if e : j = k then by subst e; exact HS.out else HA.out j hj (by omega)⟩
      case measure => simp [intOf]; omega
     | false =>
      have HE : Hid (Act.nameB s = false) := Act.name_sign s k hlt (Act.sgn_no hlk hdk)
      go_wp2_with fail
      refine (HL.out (s[k]'hlt) _).mono ?_
      rintro e w1 ⟨rfl, hw1⟩; obtain rfl := hw1.symm
      go_wp2_with fail
      refine (HD.out (s[k]'hlt) _).mono ?_
      rintro e w1 ⟨rfl, hw1⟩; obtain rfl := hw1.symm
      go_wp2
      go_ret
      exact ⟨by rw [HE.out]; rfl, rfl⟩
   ·have HE : Hid (Act.nameB s = true) := Act.name_yes s hp (by omega) h0 (fun j hj => HA.out j hj (by omega))
    go_wp2
    go_ret
    exact ⟨by rw [HE.out]; rfl, rfl⟩
end Go.Proofs.YthaadiclopoamaaGreatDoor
/- Structs of seven cells in memory. -/
set_option maxRecDepth 100000
set_option maxHeartbeats 8000000
namespace Go.Proofs.YthaadiclopoamaaGreatDoor
open Go.RowKit

/- a struct of seven cells in memory that may be written -/
structure AccAt (w : World) (g : Nat) (a b c d e f h : Value) : Prop where
 c0 : w.cell? ⟨g, 0, none⟩ = some a
 c1 : w.cell? ⟨g, 1, none⟩ = some b
 c2 : w.cell? ⟨g, 2, none⟩ = some c
 c3 : w.cell? ⟨g, 3, none⟩ = some d
 c4 : w.cell? ⟨g, 4, none⟩ = some e
 c5 : w.cell? ⟨g, 5, none⟩ = some f
 c6 : w.cell? ⟨g, 6, none⟩ = some h
 fz : ∀ i, i < 7 -> w.frozen? ⟨g, i, none⟩ = false
 lt : g < w.heap.size
theorem AccAt.cells {w : World} {g : Nat} {a b c d e f h : Value} (x : AccAt w g a b c d e f h) :
  w.cell? ⟨g, 0, none⟩ = some a /\ w.cell? ⟨g, 1, none⟩ = some b /\ w.cell? ⟨g, 2, none⟩ = some c /\ w.cell? ⟨g, 3, none⟩ = some d /\ w.cell? ⟨g, 4, none⟩ = some e /\ w.cell? ⟨g, 5, none⟩ = some f /\ w.cell? ⟨g, 6, none⟩ = some h :=
 ⟨x.c0, x.c1, x.c2, x.c3, x.c4, x.c5, x.c6⟩
theorem AccAt.frozens {w : World} {g : Nat} {a b c d e f h : Value} (x : AccAt w g a b c d e f h) :
  w.frozen? ⟨g, 0, none⟩ = false /\ w.frozen? ⟨g, 1, none⟩ = false /\ w.frozen? ⟨g, 2, none⟩ = false /\ w.frozen? ⟨g, 3, none⟩ = false /\ w.frozen? ⟨g, 4, none⟩ = false /\ w.frozen? ⟨g, 5, none⟩ = false /\ w.frozen? ⟨g, 6, none⟩ = false :=
 ⟨x.fz 0 (by omega), x.fz 1 (by omega), x.fz 2 (by omega), x.fz 3 (by omega), x.fz 4 (by omega), x.fz 5 (by omega), x.fz 6 (by omega)⟩
theorem AccAt.gr {w w' : World} {g : Nat} {a b c d e f h : Value} (x : AccAt w g a b c d e f h) (k : Gr w w') : AccAt w' g a b c d e f h :=
 ⟨k.keep x.c0, k.keep x.c1, k.keep x.c2, k.keep x.c3, k.keep x.c4, k.keep x.c5, k.keep x.c6, fun i hi => k.keepF x.lt (x.fz i hi), Nat.lt_of_lt_of_le x.lt k.size⟩
theorem AccAt.new (w : World) (a b c d e f h : Value) (t : TypeId) (g : Nat) (hg : g = w.heap.size) : AccAt (w.alloc (.cells #[a, b, c, d, e, f, h] t)) g a b c d e f h := by
 subst hg
 exact ⟨by simp, by simp, by simp, by simp, by simp, by simp, by simp, fun i hi => by simp [go_sem], by simp⟩
/- a struct of seven cells that may be written, whatever it holds -/
def RoomB (w : World) (g : Nat) : Prop := ∃ a b c d e f h, AccAt w g a b c d e f h
theorem RoomB.gr {w w' : World} {g : Nat} (x : RoomB w g) (k : Gr w w') : RoomB w' g := by
 obtain ⟨a, b, c, d, e, f, h, x⟩ := x
 exact ⟨a, b, c, d, e, f, h, x.gr k⟩
theorem RoomB.drew {w : World} {g : Nat} (x : RoomB w g) : RoomB w.drew g := x.gr (Gr.refl _).drew
end Go.Proofs.YthaadiclopoamaaGreatDoor
