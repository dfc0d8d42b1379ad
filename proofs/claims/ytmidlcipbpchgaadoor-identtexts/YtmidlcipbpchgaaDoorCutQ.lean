/- strings.Cut at one byte; readPair. -/
import Derived.Test.YtmidlcipbpchgaaDoorEnvP
import Derived.Test.YtmidlcipbpchgaaDoorTextM
namespace Go.Proofs.YtmidlcipbpchgaaDoor
open Go.RowKit

theorem ext_list (s : ByteArray) (a b : Nat) (h : a ≤ b) : (s.extract a b).data.toList = (s.data.toList.take b).drop a := by
  simp [ByteArray.data_extract, List.take_drop]
  rw [show a + (b - a) = b by omega]

set_option maxHeartbeats 1000000 in
set_option maxRecDepth 100000 in
theorem scut_any (s : ByteArray) (c : UInt8) (w : World) (hs : s.size ≤ 140737488355328) :
    Calls Tryd.prog 53 #[.string s, .string ⟨#[c]⟩] w fun e w' => ∃ x y f, e = .returned (.tuple #[.string x, .string y, .bool f]) ∧ Idn.cut3 s.data.toList c = (x.data.toList, y.data.toList, f) ∧ x.size ≤ s.size ∧ y.size ≤ s.size ∧ Gr w w' := by
  have HX : Hid (Calls Tryd.prog 59 #[.string s, .string ⟨#[c]⟩] w fun e w' => e = .returned (.int .i64 (Lib.indexByte s.data.toList c)) ∧ w' = w) := Tryd.stringslite_Index_one s c w
  rcases Idn.index_cut s.data.toList c with ⟨h1, h2⟩ | ⟨i, h1, h2, h3⟩
  · rw [h1] at HX
    have HC : Hid (Idn.cut3 s.data.toList c = (s.data.toList, [], false)) := h2
    clear h1 h2
    go_enter Tryd.func53, Tryd.ntmps53
    go_wp2_with fail
    refine HX.out.mono ?_
    rintro e1 w1 ⟨rfl, hw1⟩; obtain rfl := hw1.symm
    go_wp2
    go_ret3
    exact ⟨_, _, _, rfl, HC.out, Nat.le_refl _, Nat.zero_le _, Gr.refl _⟩
  · rw [h1] at HX
    have hi : i < s.size := by simpa using h2
    have HC : Hid (Idn.cut3 s.data.toList c = ((s.extract 0 i).data.toList, (s.extract (i + 1) s.size).data.toList, true)) := by
      show _ = _
      rw [h3, ext_list s 0 i (by omega), ext_list s (i + 1) s.size (by omega), List.drop_zero, show s.data.toList.take s.size = s.data.toList from List.take_of_length_le (by show s.data.toList.length ≤ s.data.size; simp)]
    have hone : (⟨#[c]⟩ : ByteArray).size = 1 := rfl
    have b0 : (0 : Int) ≤ (i : Int) := by omega
    have b1 : (i : Int) ≤ (s.size : Int) := by omega
    have b2 : (i : Int) + 1 ≤ (s.size : Int) := by omega
    have b3 : (0 : Int) ≤ (i : Int) + 1 := by omega
    have b4 : ((i : Int) + 1).toNat = i + 1 := by omega
    clear h1 h2 h3
    go_enter Tryd.func53, Tryd.ntmps53
    go_wp2_with fail
    refine HX.out.mono ?_
    rintro e1 w1 ⟨rfl, hw1⟩; obtain rfl := hw1.symm
    go_wp2
    go_region
    go_wp2
    go_ret3
    exact ⟨_, _, _, rfl, HC.out, by simp; omega, by simp, (Gr.refl _).drew⟩

set_option maxHeartbeats 1000000 in
theorem cut_any (s : ByteArray) (c : UInt8) (w : World) (hs : s.size ≤ 140737488355328) :
    Calls Tryd.prog 49 #[.string s, .string ⟨#[c]⟩] w fun e w' => ∃ x y f, e = .returned (.tuple #[.string x, .string y, .bool f]) ∧ Idn.cut3 s.data.toList c = (x.data.toList, y.data.toList, f) ∧ x.size ≤ s.size ∧ y.size ≤ s.size ∧ Gr w w' := by
  have HC : Hid (Calls Tryd.prog 53 #[.string s, .string ⟨#[c]⟩] w fun e w' => ∃ x y f, e = .returned (.tuple #[.string x, .string y, .bool f]) ∧ Idn.cut3 s.data.toList c = (x.data.toList, y.data.toList, f) ∧ x.size ≤ s.size ∧ y.size ≤ s.size ∧ Gr w w') := scut_any s c w hs
  go_enter Tryd.func49, Tryd.ntmps49
  go_wp2_with fail
  refine HC.out.mono ?_
  rintro e1 w1 ⟨x, y, f, rfl, hc, hx, hy, hg⟩
  have HX : Hid (Idn.cut3 s.data.toList c = (x.data.toList, y.data.toList, f)) := hc
  clear hc
  go_wp2
  go_ret3
  exact ⟨x, y, f, rfl, HX.out, hx, hy, hg⟩

def pairE (l : List UInt8) (c : UInt8) : Int × Int := (numE (Idn.cut3 l c).1, numE (Idn.cut3 l c).2.1)

set_option maxHeartbeats 1000000 in
theorem readPair_any (s : ByteArray) (c : UInt8) (w : World) (hs : s.size ≤ 140737488355328) (he : Env w) :
    Calls Tryd.prog 50 #[.string s, .string ⟨#[c]⟩] w fun e w' => e = .returned (.tuple #[.int .i64 (pairE s.data.toList c).1, .int .i64 (pairE s.data.toList c).2]) ∧ Gr w w' := by
  have HC : Hid (Calls Tryd.prog 49 #[.string s, .string ⟨#[c]⟩] w fun e w' => ∃ x y f, e = .returned (.tuple #[.string x, .string y, .bool f]) ∧ Idn.cut3 s.data.toList c = (x.data.toList, y.data.toList, f) ∧ x.size ≤ s.size ∧ y.size ≤ s.size ∧ Gr w w') := cut_any s c w hs
  have HN : Hid (∀ (x : ByteArray) (w' : World), x.size ≤ s.size → Gr w w' → Calls Tryd.prog 54 #[.string x] w' fun e w2 => e = .returned (.int .i64 (numE x.data.toList)) ∧ Gr w' w2) := fun x w' hx g => readNumber_any x w' (by omega) (he.gr g)
  have HP : Hid (pairE s.data.toList c = (numE (Idn.cut3 s.data.toList c).1, numE (Idn.cut3 s.data.toList c).2.1)) := rfl
  clear he
  go_enter Tryd.func50, Tryd.ntmps50
  go_wp2_with fail
  refine HC.out.mono ?_
  rintro e1 w1 ⟨x, y, f, rfl, hc, hx, hy, hg⟩
  have HQ : Hid (pairE s.data.toList c = (numE x.data.toList, numE y.data.toList)) := by show _ = _; rw [HP.out, hc]
  clear hc
  go_wp2_with fail
  refine (HN.out _ _ hx (by repeat (first | exact Gr.refl _ | refine Gr.alloc ?_ | refine Gr.drew ?_ | refine Gr.trans ?_ (by assumption)))).mono ?_
  rintro e2 w2 ⟨rfl, hg2⟩
  go_wp2_with fail
  refine (HN.out _ _ hy (by repeat (first | exact Gr.refl _ | refine Gr.alloc ?_ | refine Gr.drew ?_ | refine Gr.trans ?_ (by assumption)))).mono ?_
  rintro e3 w3 ⟨rfl, hg3⟩
  go_wp2
  go_ret2
  exact ⟨by rw [HQ.out]; rfl, (by repeat (first | exact Gr.refl _ | refine Gr.alloc ?_ | refine Gr.drew ?_ | refine Gr.trans ?_ (by assumption)))⟩
end Go.Proofs.YtmidlcipbpchgaaDoor
