/- Parts of these proofs, laid together. -/
import Derived.Test.YtojmhhmpmpbpfaaGreatDoorGBA
import Derived.Test.YtojmhhmpmpbpfaaGreatDoorGL
namespace Go.Proofs.YtojmhhmpmpbpfaaGreatDoor
open Go.RowKit Go.Maps
open Dk (Fl Fo St Ok)
variable {a u w w' w2 : World} {b m f g x : Nat} {A : Nat → Int} {s : St} {n z : Int} {l : Wl.Lg} {h : Wl.Bo}

theorem own_lit2 (w : World) (x y : ByteArray) : StrsAt (w.alloc (.cells #[.string x, .string y] 9)) (some ⟨w.heap.size, 0, none⟩) [x, y] := by
  intro j hj
  match j, hj with
  | 0, _ => exact ⟨w.heap.size, 0, rfl, by simp, by simp⟩
  | 1, _ => exact ⟨w.heap.size, 0, rfl, by simp, by simp⟩
theorem same_l1 (w : World) (x : ByteArray) (ab : Option Addr) (cb : Nat) (h : StrsAt w ab [x]) : Calls Tryz.prog 10 #[.slice ab 1 cb, .slice (some ⟨w.heap.size, 0, none⟩) 1 1] (w.alloc (.cells #[.string x] 9)) fun e w' => e = .returned (.bool true) ∧ Gr w w' := by
  refine (sameG_any [x] [x] ab (some ⟨w.heap.size, 0, none⟩) cb 1 (w.alloc (.cells #[.string x] 9)) (by simp) (by simp) (h.gr (Gr.refl w).alloc) (own_lit1 w x)).mono ?_
  rintro e w' ⟨rfl, k⟩
  exact ⟨by simp, (Gr.refl w).alloc.trans k⟩
theorem same_l2 (w : World) (x y : ByteArray) (ab : Option Addr) (cb : Nat) (h : StrsAt w ab [x, y]) : Calls Tryz.prog 10 #[.slice ab 2 cb, .slice (some ⟨w.heap.size, 0, none⟩) 2 2] (w.alloc (.cells #[.string x, .string y] 9)) fun e w' => e = .returned (.bool true) ∧ Gr w w' := by
  refine (sameG_any [x, y] [x, y] ab (some ⟨w.heap.size, 0, none⟩) cb 2 (w.alloc (.cells #[.string x, .string y] 9)) (by simp) (by simp) (h.gr (Gr.refl w).alloc) (own_lit2 w x y)).mono ?_
  rintro e w' ⟨rfl, k⟩
  exact ⟨by simp, (Gr.refl w).alloc.trans k⟩
theorem Lz.z0 {R N : Int} (k : Lz u w b m g s l h R N) : 0 < l.z := by
  have h1 := k.re.z
  have h2 := Wl.cat_pos k.re.gd.1
  omega
theorem z_num {R N : Int} (k : Lz u w b m g s l h R N) : Calls Tryz.prog 23 #[ptr g] w fun e w' => e = .returned (.int .i64 N) ∧ w' = w := by
  have := lnumber_any k.lv.lg
  rwa [k.nn] at this
theorem z_size {R N : Int} (k : Lz u w b m g s l h R N) : Calls Tryz.prog 24 #[ptr g] w fun e w' => e = .returned (.int .i64 l.z) ∧ Gr w w' := by
  obtain ⟨A, hA⟩ := k.lv.nw.at_
  have := lsize_any hA k.lv.lg
  rwa [re_get k.re] at this
theorem z_grow {R N R' N' : Int} {s' : St} {l' : Wl.Lg} {h' : Wl.Bo} (_ : Lz u w b m g s l h R N) (k : Lz u w' b m g s' l' h' R' N') : Gr u w' := k.lv.nw.gr
set_option maxHeartbeats 8000000 in
set_option maxRecDepth 100000 in
theorem awake17_any (w : World) (hT : Tab w) : Calls Tryz.prog 5 #[] w fun e w' => e = .returned (.bool true) ∧ Gr w w' := by
  have HN := new_any 1000 w (by omega)
  have hm : mayL 1000 [] = true := by decide
  unfold LdR at HN
  simp only [if_pos hm] at HN
  have HN := Lib.hid HN
  have HT := Lib.hid hT
  have HO : Hid (∀ w1 b m, New w w1 b m (Dk.new 1000 []) → Calls Tryz.prog 8 #[ptr b, .string ⟨#[120]⟩] w1 fun e w' => ∃ g ab cb s l, e = .returned (.tuple #[ptr g, .slice ab 1 cb, .int .i64 0]) ∧ Og w w1 w' b m g s l [[120]] ab ∧ Lz w w' b m g s l [[120]] 1000 1) := fun w1 b m k => z_first (by omega) (by omega) k hT ⟨#[120]⟩ (by decide) (by decide)
  clear hT hm
  go_enter Tryz.func5, Tryz.ntmps5
  go_wp2_with fail
  refine HN.out.mono ?_
  rintro e w1 ⟨b, m, rfl, hn⟩
  have HN1 := Lib.hid hn
  clear hn
  go_wp2_with fail
  refine (HO.out _ _ _ HN1.out).mono ?_
  rintro e w2 ⟨g, ab, cb, s, l, rfl, ho, hz⟩
  have HZ2 := Lib.hid hz
  have HRo : Hid (StrsAt w2 ab [⟨#[120]⟩]) := ho.ro
  clear ho hz HO HN1 HN
  go_wp2_with fail
  refine (same_l1 _ _ _ _ HRo.out).mono ?_
  rintro e w3 ⟨rfl, hg3⟩
  have HZ3 := Lib.hid (HZ2.out.up hg3)
  have c1 := (cat_new ⟨#[120]⟩ (by decide))
  have hc1 : (Sl.cat 3 [[120]]).length ≤ 21 := c1
  clear c1 hg3 HZ2 HRo
  go_wp2_with fail
  refine (z_append HZ3.out HT.out ⟨#[97]⟩ (by decide) (by show (((Sl.cat 3 [[120]]).length + 1 + 20 : Nat) : Int) ≤ 1000; omega)).mono ?_
  rintro e w4 ⟨s4, l4, rfl, hz4, _⟩
  have HZ4 : Hid (Lz w w4 b m g s4 l4 [[120], [97]] 1000 1) := hz4
  have hc2 : (Sl.cat 3 [[120], [97]]).length ≤ 42 := by have c2 := cat_more [[120]] ⟨#[97]⟩ (by decide); have c3 : (Sl.cat 3 [[120], [97]]).length ≤ (Sl.cat 3 [[120]]).length + 1 + 20 := c2; omega
  clear hz4 HZ3
  go_wp2_with fail
  refine (z_turn HZ4.out HT.out ⟨#[98]⟩ (by decide) (by decide) (by show (((Sl.cat 3 [[120], [97]]).length + 1 + 20 : Nat) : Int) ≤ 1000; omega)).mono ?_
  rintro e w5 ⟨s5, l5, rfl, hz5, _⟩
  have HZ5 : Hid (Lz w w5 b m g s5 l5 [[98]] 1000 2) := hz5
  have hc3 : (Sl.cat 3 [[98]]).length ≤ 21 := cat_new ⟨#[98]⟩ (by decide)
  clear hz5 HZ4
  go_wp2_with fail
  refine (z_append HZ5.out HT.out ⟨#[99]⟩ (by decide) (by show (((Sl.cat 3 [[98]]).length + 1 + 20 : Nat) : Int) ≤ 1000; omega)).mono ?_
  rintro e w6 ⟨s6, l6, rfl, hz6, _⟩
  have HZ6 : Hid (Lz w w6 b m g s6 l6 [[98], [99]] 1000 2) := hz6
  clear hz6 HZ5
  go_wp2_with fail
  refine (z_open HZ6.out HT.out ⟨#[120]⟩ (by decide)).mono ?_
  rintro e w7 ⟨g7, a7, c7, rfl, ho7, hz7, hy7⟩
  have HZ7 := Lib.hid hz7
  have HY7 := Lib.hid hy7
  have HR7 : Hid (StrsAt w7 a7 [⟨#[98]⟩, ⟨#[99]⟩]) := ho7.ro
  clear hz7 hy7 ho7 HZ6
  go_wp2_with fail
  refine (same_l2 _ _ _ _ _ HR7.out).mono ?_
  rintro e w8 ⟨rfl, hg8⟩
  have HZ8 := Lib.hid (HZ7.out.up hg8)
  have HY8 := Lib.hid (HY7.out.up hg8)
  have hz0 := HZ8.out.z0
  have hzb : decide (0 < l6.z) = true := decide_eq_true hz0
  have HSa : Hid (∀ w', Gr w8 w' → Calls Tryz.prog 24 #[ptr g] w' fun e w2 => e = .returned (.int .i64 l6.z) ∧ Gr w' w2) := fun w' q => z_size (HZ8.out.up q)
  have HSb : Hid (∀ w', Gr w8 w' → Calls Tryz.prog 24 #[ptr g7] w' fun e w2 => e = .returned (.int .i64 l6.z) ∧ Gr w' w2) := fun w' q => z_size (HY8.out.up q)
  have HNm := Lib.hid (z_num HY8.out)
  have HG := Lib.hid HZ8.out.lv.nw.gr
  clear hg8 HZ7 HY7 HR7 HZ8 HY8 HT
  generalize l6.z = zz at *
  have hq : (zz == zz) = true := by simp
  go_wp2_with (go_at_call 23; refine HNm.out.mono ?_; rintro e w' ⟨rfl, hw⟩; obtain rfl := hw.symm; clear hw)
  refine (HSb.out _ (Gr.refl _)).mono ?_
  rintro e w9 ⟨rfl, hg9⟩
  have HG9 := Lib.hid hg9
  clear hg9
  go_wp2_with fail
  refine (HSa.out _ HG9.out).mono ?_
  rintro e w10 ⟨rfl, hg10⟩
  have HG10 := Lib.hid (HG9.out.trans hg10)
  clear hg10
  go_wp2_with fail
  refine (HSb.out _ HG10.out).mono ?_
  rintro e w11 ⟨rfl, hg11⟩
  have HG11 := Lib.hid (HG10.out.trans hg11)
  clear hg11
  go_wp2
  go_ret
  exact ⟨rfl, HG.out.trans HG11.out⟩
end Go.Proofs.YtojmhhmpmpbpfaaGreatDoor
