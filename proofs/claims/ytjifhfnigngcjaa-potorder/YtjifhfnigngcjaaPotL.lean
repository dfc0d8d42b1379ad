/- played: a pot under many acts. -/
import Derived.Test.YtjifhfnigngcjaaPotE
import Derived.Test.YtjifhfnigngcjaaRowB
import Derived.Test.YtjifhfnigngcjaaBoxB
import Derived.Test.YtjifhfnigngcjaaAppS
namespace Go.Proofs.Ytjifhfnigngcjaa
open Go.RowKit

set_option maxHeartbeats 8000000 in
set_option maxRecDepth 100000 in
theorem played_any (first : Int) (A : List Four) (ad : Option Addr) (cap : Nat) (w : World) (hA : ActsAt w ad A) (hn : A.length ≤ 300) (h0 : 0 ≤ first) (h1 : first ≤ 1000000000000000) :
    Calls Try.prog 24 #[.int .i64 first, .slice ad A.length cap] w fun e w' =>
      ∃ (h i o kept : Int) (O : List Four) (ad2 : Option Addr) (cap2 : Nat), e = .returned (.tuple #[.agg #[.int .i64 h, .int .i64 i, .int .i64 o], .slice ad2 O.length cap2, .int .i64 kept, .bool true]) ∧ O.length ≤ 300 ∧ ActsAt w' ad2 O ∧ Pot.Inv first h i o kept O ∧ Gr w w' := by
  have HAA : Hid (ActsAt w ad A) := hA
  have HI0 : Hid (Pot.Inv first first 0 0 0 []) := Pot.Inv.start first h0 h1
  have HRG : Hid (0 ≤ first ∧ first ≤ 1000000000000000) := ⟨h0, h1⟩
  obtain ⟨i0, hi, hz0, hz1, hz2⟩ := info_parts infoAct
  clear hA h0 h1
  go_enter Try.func24, Try.ntmps24
  go_wp2
  go_loopw [9, 10, 11] (fun op kp ix wr => ∃ (k : Nat) (O : List Four) (h i o kept : Int), k ≤ A.length ∧ ix = .int .i64 k ∧ kp = .int .i64 kept ∧ O.length ≤ k ∧ BoxAt wr w.heap.size (.int .i64 0) (.int .i64 0) (.int .i64 0) ∧ BoxAt wr (w.heap.size + 1) (.int .i64 h) (.int .i64 i) (.int .i64 o) ∧ wr.ownsRow (w.heap.size + 1 + 1) 45 4 op O.length (actV O) ∧ Pot.Inv first h i o kept O ∧ Gr w wr)
    (fun _ _ ix _ => A.length - (intOf ix).toNat)
  case atStart => exact ⟨0, [], first, 0, 0, 0, by omega, rfl, rfl, by simp, (BoxAt.new w _ _ _ _ _ rfl).gr (Gr.refl _).alloc, BoxAt.new _ _ _ _ _ _ (by simp), World.ownsRow_nil _ _ _ _, HI0.out, (by repeat (first | exact Gr.refl _ | refine Gr.alloc ?_ | refine Gr.drew ?_ | refine Gr.trans ?_ (by assumption)))⟩
  case round =>
    obtain ⟨k, O, h, i, o, kept, hk, rfl, rfl, hOk, hbx, hby, hown, hinv, hg⟩ := hrel
    have HBX : Hid (BoxAt wr w.heap.size (.int .i64 0) (.int .i64 0) (.int .i64 0)) := hbx
    have HBY : Hid (BoxAt wr (w.heap.size + 1) (.int .i64 h) (.int .i64 i) (.int .i64 o)) := hby
    have HG : Hid (Gr w wr) := hg
    have HV : Hid (Pot.Inv first h i o kept O) := hinv
    have hrng := hinv.rng
    have hkr := hinv.keptRng HRG.out.1 HRG.out.2
    obtain ⟨ad2, cap2, rfl, hcp, hOA, hOb⟩ := own_acts hown
    have HO : Hid (wr.ownsRow (w.heap.size + 1 + 1) 45 4 (.slice ad2 O.length cap2) O.length (actV O)) := hown
    have HOA : Hid (ActsAt wr ad2 O) := hOA
    have HOb : Hid (∀ a, ad2 = some a → w.heap.size + 1 + 1 ≤ a.block) := hOb
    have hsz : w.heap.size + 1 < wr.heap.size := hby.lt
    obtain ⟨y0, y1, y2, g0, g1, g2, ylt⟩ := hby
    clear hbx hinv hOA hOb hown
    by_cases hlt : k < A.length
    · obtain ⟨b, off, rfl, hbl, c0, c1, c2, c3⟩ := HAA.out k hlt
      have d0 := hg.keep c0
      have d1 := hg.keep c1
      have d2 := hg.keep c2
      have d3 := hg.keep c3
      obtain ⟨⟨kd, out, amt, wh⟩, ht⟩ : ∃ t, A[k] = t := ⟨_, rfl⟩
      rw [ht] at d0 d1 d2 d3
      simp only at d0 d1 d2 d3
      have hbw : b < wr.heap.size := Nat.lt_of_lt_of_le hbl hg.size
      have hki : (k : Int) < (A.length : Int) := by omega
      clear c0 c1 c2 c3 ht hg
      by_cases hkd : kd = 0
      · subst hkd
        by_cases he : Pot.eDo out h i o amt = 0
        · have HD : Hid (∀ w', Calls Try.prog 16 #[.agg #[.int .i64 h, .int .i64 i, .int .i64 o], .bool out, .int .i64 amt] w' fun e w2 => e = .returned (.tuple #[.agg #[.int .i64 (Pot.sg out (h - amt) (h + amt)), .int .i64 (Pot.sg out i (i + amt)), .int .i64 (Pot.sg out (o + amt) o)], .int .i64 0]) ∧ Gr w' w2) := fun w' => do_yes h i o amt out w' he
          have HV2 : Hid (Pot.Inv first (Pot.sg out (h - amt) (h + amt)) (Pot.sg out i (i + amt)) (Pot.sg out (o + amt) o) kept (O ++ [⟨0, out, amt, wh⟩])) := HV.out.push ⟨0, out, amt, wh⟩ he
          generalize Pot.sg out (h - amt) (h + amt) = h' at *
          generalize Pot.sg out i (i + amt) = i' at *
          generalize Pot.sg out (o + amt) o = o' at *
          clear he
          go_wp2_with fail
          refine (HD.out _).mono ?_
          rintro e w1 ⟨rfl, hg1⟩
          have hsz1 : wr.heap.size < w1.heap.size := by have := hg1.size; simp at this; omega
          have a0 : w1.cell? ⟨wr.heap.size, 0, none⟩ = some (.int .i64 0) := hg1.keep (by simp)
          have a1 : w1.cell? ⟨wr.heap.size, 1, none⟩ = some (.bool out) := hg1.keep (by simp)
          have a2 : w1.cell? ⟨wr.heap.size, 2, none⟩ = some (.int .i64 amt) := hg1.keep (by simp)
          have a3 : w1.cell? ⟨wr.heap.size, 3, none⟩ = some (.int .i64 wh) := hg1.keep (by simp)
          have HBX1 : Hid (BoxAt w1 w.heap.size (.int .i64 0) (.int .i64 0) (.int .i64 0)) := HBX.out.gr ((Gr.refl wr).alloc.trans hg1)
          have HBY1 : Hid (BoxAt w1 (w.heap.size + 1) (.int .i64 h) (.int .i64 i) (.int .i64 o)) := HBY.out.gr ((Gr.refl wr).alloc.trans hg1)
          have HO1 : Hid (w1.ownsRow (w.heap.size + 1 + 1) 45 4 (.slice ad2 O.length cap2) O.length (actV O)) := own_gr HO.out ((Gr.refl wr).alloc.trans hg1)
          have HG1 : Hid (Gr w w1) := HG.out.trans ((Gr.refl wr).alloc.trans hg1)
          clear y0 y1 y2 g0 g1 g2 d0 d1 d2 d3 hg1
          obtain ⟨y0, y1, y2, g0, g1, g2, ylt1⟩ := HBY1.out
          have hm1 : O.length + 1 ≤ maxLen := by unfold maxLen; omega
          have hsz2 : w.heap.size + 1 + 1 ≤ w1.heap.size := by omega
          obtain ⟨W2, eW2⟩ : ∃ x, x = ((((w1.setCell ⟨w.heap.size + 1, 0, none⟩ (.int .i64 h')).setCell ⟨w.heap.size + 1, 1, none⟩ (.int .i64 i')).setCell ⟨w.heap.size + 1, 2, none⟩ (.int .i64 o')).alloc (.cells #[.int .i64 h', .int .i64 i', .int .i64 o'] 23)) := ⟨_, rfl⟩
          have hW2 : W2.heap.size = w1.heap.size + 1 := by rw [eW2]; simp
          have HNW : Hid (∀ j u, (actV [⟨0, out, amt, wh⟩])[j]? = some u → (((((w1.setCell ⟨w.heap.size + 1, 0, none⟩ (.int .i64 h')).setCell ⟨w.heap.size + 1, 1, none⟩ (.int .i64 i')).setCell ⟨w.heap.size + 1, 2, none⟩ (.int .i64 o')).alloc (.cells #[.int .i64 h', .int .i64 i', .int .i64 o'] 23)).alloc (.cells #[.int .i64 0, .bool out, .int .i64 amt, .int .i64 wh] 45)).cell? ((⟨w1.heap.size + 1, 0, none⟩ : Addr).add j) = some u) := by
            have := (acts_lit1 W2 ⟨0, out, amt, wh⟩ 45).news
            rw [hW2, eW2] at this
            exact this
          have HO2 : Hid (((((w1.setCell ⟨w.heap.size + 1, 0, none⟩ (.int .i64 h')).setCell ⟨w.heap.size + 1, 1, none⟩ (.int .i64 i')).setCell ⟨w.heap.size + 1, 2, none⟩ (.int .i64 o')).alloc (.cells #[.int .i64 h', .int .i64 i', .int .i64 o'] 23)).ownsRow (w.heap.size + 1 + 1) 45 4 (.slice ad2 O.length cap2) O.length (actV O)) := (own_set3 HO1.out (w.heap.size + 1) (by omega) _ _ _).alloc _
          have HBX2 : Hid (BoxAt ((((w1.setCell ⟨w.heap.size + 1, 0, none⟩ (.int .i64 h')).setCell ⟨w.heap.size + 1, 1, none⟩ (.int .i64 i')).setCell ⟨w.heap.size + 1, 2, none⟩ (.int .i64 o')).alloc (.cells #[.int .i64 h', .int .i64 i', .int .i64 o'] 23)) w.heap.size (.int .i64 0) (.int .i64 0) (.int .i64 0)) := (HBX1.out.far3 (w.heap.size + 1) (by omega) _ _ _).gr (Gr.refl _).alloc
          have HBY2 : Hid (BoxAt ((((w1.setCell ⟨w.heap.size + 1, 0, none⟩ (.int .i64 h')).setCell ⟨w.heap.size + 1, 1, none⟩ (.int .i64 i')).setCell ⟨w.heap.size + 1, 2, none⟩ (.int .i64 o')).alloc (.cells #[.int .i64 h', .int .i64 i', .int .i64 o'] 23)) (w.heap.size + 1) (.int .i64 h') (.int .i64 i') (.int .i64 o')) := (HBY1.out.set3 _ _ _).gr (Gr.refl _).alloc
          have HG2 : Hid (Gr w ((((w1.setCell ⟨w.heap.size + 1, 0, none⟩ (.int .i64 h')).setCell ⟨w.heap.size + 1, 1, none⟩ (.int .i64 i')).setCell ⟨w.heap.size + 1, 2, none⟩ (.int .i64 o')).alloc (.cells #[.int .i64 h', .int .i64 i', .int .i64 o'] 23))) := (HG1.out.set3 (w.heap.size + 1) (by omega) _ _ _).alloc
          clear HO HO1 HBX1 HBY1 HG1 HBX HBY HD HV
          go_wp2_with (first
            | (at_builtin; refine wpList_append_own _ rfl _ _ 41 rfl (w.heap.size + 1 + 1) 45 i0 (.agg #[.int .i64 0, .bool false, .int .i64 0, .int .i64 0]) 4 32 Try.underlying41 hi hz0 hz1 hz2 rfl (by decide) _ _ _ rfl (HO2.out.alloc _) ⟨w1.heap.size + 1, 0, none⟩ 1 1 (actV [⟨0, out, amt, wh⟩]) rfl rfl HNW.out (actV_one _) hm1 (by omega) (by simp; omega) ?_)
            | fail)
          intro v' w5 hown5 hgrow _
          have hb5 : Below (w.heap.size + 1 + 1) (((((w1.setCell ⟨w.heap.size + 1, 0, none⟩ (.int .i64 h')).setCell ⟨w.heap.size + 1, 1, none⟩ (.int .i64 i')).setCell ⟨w.heap.size + 1, 2, none⟩ (.int .i64 o')).alloc (.cells #[.int .i64 h', .int .i64 i', .int .i64 o'] 23)).alloc (.cells #[.int .i64 0, .bool out, .int .i64 amt, .int .i64 wh] 45)) w5 := (Below.refl _ _).grown hgrow (by simp; omega) (fun k hk => (HO2.out.lt k hk).1)
          have HBX5 : Hid (BoxAt w5 w.heap.size (.int .i64 0) (.int .i64 0) (.int .i64 0)) := (HBX2.out.gr (Gr.refl _).alloc).below hb5 (by omega)
          have HBY5 : Hid (BoxAt w5 (w.heap.size + 1) (.int .i64 h') (.int .i64 i') (.int .i64 o')) := (HBY2.out.gr (Gr.refl _).alloc).below hb5 (by omega)
          have HG5 : Hid (Gr w w5) := ⟨(HG2.out.alloc).below.trans (hb5.mono (by omega))⟩
          have HO5 : Hid (w5.ownsRow (w.heap.size + 1 + 1) 45 4 v' (O.length + 1) (actV O ++ actV [⟨0, out, amt, wh⟩])) := hown5
          clear hown5 hgrow hb5 HO2 HBX2 HBY2 HG2 HNW
          go_wp2
          go_roundw
          case rel =>
            refine ⟨k + 1, O ++ [⟨0, out, amt, wh⟩], h', i', o', kept, by omega, by go_num, rfl, by simp; omega, HBX5.out, HBY5.out, ?_, HV2.out, HG5.out⟩
            rw [List.length_append, actV_app]
            exact HO5.out
          case measure => simp [intOf]; omega
        · have HD : Hid (∀ w', Calls Try.prog 16 #[.agg #[.int .i64 h, .int .i64 i, .int .i64 o], .bool out, .int .i64 amt] w' fun e w2 => e = .returned (.tuple #[.agg #[.int .i64 0, .int .i64 0, .int .i64 0], .int .i64 (Pot.eDo out h i o amt)]) ∧ Gr w' w2) := fun w' => do_not h i o amt out w' (by omega) (by omega) he
          have hne : (Pot.eDo out h i o amt == 0) = false := by simpa using he
          generalize Pot.eDo out h i o amt = er at *
          clear he
          go_wp2_with fail
          refine (HD.out _).mono ?_
          rintro e w1 ⟨rfl, hg1⟩
          clear y0 y1 y2 g0 g1 g2 d0 d1 d2 d3
          go_wp2
          go_roundw
          case rel => exact ⟨k + 1, O, h, i, o, kept, by omega, by go_num, rfl, by omega, HBX.out.gr (by exact (by repeat (first | exact Gr.refl _ | refine Gr.alloc ?_ | refine Gr.drew ?_ | refine Gr.trans ?_ (by assumption)))), HBY.out.gr (by exact (by repeat (first | exact Gr.refl _ | refine Gr.alloc ?_ | refine Gr.drew ?_ | refine Gr.trans ?_ (by assumption)))), own_gr HO.out (by exact (by repeat (first | exact Gr.refl _ | refine Gr.alloc ?_ | refine Gr.drew ?_ | refine Gr.trans ?_ (by assumption)))), HV.out, HG.out.trans (by exact (by repeat (first | exact Gr.refl _ | refine Gr.alloc ?_ | refine Gr.drew ?_ | refine Gr.trans ?_ (by assumption))))⟩
          case measure => simp [intOf]; omega
      · have hkd0 : (kd == 0) = false := by simpa using hkd
        by_cases hbad : (kd ≠ 1 ∧ kd ≠ 2) ∨ wh < 0 ∨ (O.length : Int) ≤ wh
        · rcases hbad with ⟨k1, k2⟩ | hbad
          · have e1 : (kd != 1) = true := by simpa using k1
            have e2 : (kd != 2) = true := by simpa using k2
            clear hkd k1 k2
            go_wp2
            go_roundw
            case rel => exact ⟨k + 1, O, h, i, o, kept, by omega, by go_num, rfl, by omega, HBX.out.gr (by exact (by repeat (first | exact Gr.refl _ | refine Gr.alloc ?_ | refine Gr.drew ?_ | refine Gr.trans ?_ (by assumption)))), HBY.out.gr (by exact (by repeat (first | exact Gr.refl _ | refine Gr.alloc ?_ | refine Gr.drew ?_ | refine Gr.trans ?_ (by assumption)))), own_gr HO.out (by exact (by repeat (first | exact Gr.refl _ | refine Gr.alloc ?_ | refine Gr.drew ?_ | refine Gr.trans ?_ (by assumption)))), HV.out, HG.out.trans (by exact (by repeat (first | exact Gr.refl _ | refine Gr.alloc ?_ | refine Gr.drew ?_ | refine Gr.trans ?_ (by assumption))))⟩
            case measure => simp [intOf]; omega
          · have hne : (kd = 1 ∨ kd = 2) ∨ (kd ≠ 1 ∧ kd ≠ 2) := by omega
            rcases hne with hne | ⟨k1, k2⟩
            · by_cases hw0 : wh < 0
              · clear hbad
                rcases hne with rfl | rfl
                · go_wp2
                  go_roundw
                  case rel => exact ⟨k + 1, O, h, i, o, kept, by omega, by go_num, rfl, by omega, HBX.out.gr (by exact (by repeat (first | exact Gr.refl _ | refine Gr.alloc ?_ | refine Gr.drew ?_ | refine Gr.trans ?_ (by assumption)))), HBY.out.gr (by exact (by repeat (first | exact Gr.refl _ | refine Gr.alloc ?_ | refine Gr.drew ?_ | refine Gr.trans ?_ (by assumption)))), own_gr HO.out (by exact (by repeat (first | exact Gr.refl _ | refine Gr.alloc ?_ | refine Gr.drew ?_ | refine Gr.trans ?_ (by assumption)))), HV.out, HG.out.trans (by exact (by repeat (first | exact Gr.refl _ | refine Gr.alloc ?_ | refine Gr.drew ?_ | refine Gr.trans ?_ (by assumption))))⟩
                  case measure => simp [intOf]; omega
                · go_wp2
                  go_roundw
                  case rel => exact ⟨k + 1, O, h, i, o, kept, by omega, by go_num, rfl, by omega, HBX.out.gr (by exact (by repeat (first | exact Gr.refl _ | refine Gr.alloc ?_ | refine Gr.drew ?_ | refine Gr.trans ?_ (by assumption)))), HBY.out.gr (by exact (by repeat (first | exact Gr.refl _ | refine Gr.alloc ?_ | refine Gr.drew ?_ | refine Gr.trans ?_ (by assumption)))), own_gr HO.out (by exact (by repeat (first | exact Gr.refl _ | refine Gr.alloc ?_ | refine Gr.drew ?_ | refine Gr.trans ?_ (by assumption)))), HV.out, HG.out.trans (by exact (by repeat (first | exact Gr.refl _ | refine Gr.alloc ?_ | refine Gr.drew ?_ | refine Gr.trans ?_ (by assumption))))⟩
                  case measure => simp [intOf]; omega
              · have hw1 : (O.length : Int) ≤ wh := by omega
                clear hbad
                rcases hne with rfl | rfl
                · go_wp2
                  go_roundw
                  case rel => exact ⟨k + 1, O, h, i, o, kept, by omega, by go_num, rfl, by omega, HBX.out.gr (by exact (by repeat (first | exact Gr.refl _ | refine Gr.alloc ?_ | refine Gr.drew ?_ | refine Gr.trans ?_ (by assumption)))), HBY.out.gr (by exact (by repeat (first | exact Gr.refl _ | refine Gr.alloc ?_ | refine Gr.drew ?_ | refine Gr.trans ?_ (by assumption)))), own_gr HO.out (by exact (by repeat (first | exact Gr.refl _ | refine Gr.alloc ?_ | refine Gr.drew ?_ | refine Gr.trans ?_ (by assumption)))), HV.out, HG.out.trans (by exact (by repeat (first | exact Gr.refl _ | refine Gr.alloc ?_ | refine Gr.drew ?_ | refine Gr.trans ?_ (by assumption))))⟩
                  case measure => simp [intOf]; omega
                · go_wp2
                  go_roundw
                  case rel => exact ⟨k + 1, O, h, i, o, kept, by omega, by go_num, rfl, by omega, HBX.out.gr (by exact (by repeat (first | exact Gr.refl _ | refine Gr.alloc ?_ | refine Gr.drew ?_ | refine Gr.trans ?_ (by assumption)))), HBY.out.gr (by exact (by repeat (first | exact Gr.refl _ | refine Gr.alloc ?_ | refine Gr.drew ?_ | refine Gr.trans ?_ (by assumption)))), own_gr HO.out (by exact (by repeat (first | exact Gr.refl _ | refine Gr.alloc ?_ | refine Gr.drew ?_ | refine Gr.trans ?_ (by assumption)))), HV.out, HG.out.trans (by exact (by repeat (first | exact Gr.refl _ | refine Gr.alloc ?_ | refine Gr.drew ?_ | refine Gr.trans ?_ (by assumption))))⟩
                  case measure => simp [intOf]; omega
            · have e1 : (kd != 1) = true := by simpa using k1
              have e2 : (kd != 2) = true := by simpa using k2
              clear hkd k1 k2 hbad
              go_wp2
              go_roundw
              case rel => exact ⟨k + 1, O, h, i, o, kept, by omega, by go_num, rfl, by omega, HBX.out.gr (by exact (by repeat (first | exact Gr.refl _ | refine Gr.alloc ?_ | refine Gr.drew ?_ | refine Gr.trans ?_ (by assumption)))), HBY.out.gr (by exact (by repeat (first | exact Gr.refl _ | refine Gr.alloc ?_ | refine Gr.drew ?_ | refine Gr.trans ?_ (by assumption)))), own_gr HO.out (by exact (by repeat (first | exact Gr.refl _ | refine Gr.alloc ?_ | refine Gr.drew ?_ | refine Gr.trans ?_ (by assumption)))), HV.out, HG.out.trans (by exact (by repeat (first | exact Gr.refl _ | refine Gr.alloc ?_ | refine Gr.drew ?_ | refine Gr.trans ?_ (by assumption))))⟩
              case measure => simp [intOf]; omega
        · obtain ⟨j, rfl⟩ : ∃ j : Nat, wh = (j : Int) := ⟨wh.toNat, by omega⟩
          have hjl : j < O.length := by omega
          have hkk : kd = 1 ∨ kd = 2 := by omega
          obtain ⟨b2, off2, rfl, hb2, c0, c1, c2, c3⟩ := HOA.out j hjl
          have HCN : Hid (Pot.eUn O[j].out h i o O[j].amt = 0) := HV.out.can j hjl
          have HVU := HV.out.undo j hjl
          have HVK := HV.out.keep j hjl
          obtain ⟨⟨xk, xo, xa, xw⟩, hx⟩ : ∃ t, O[j] = t := ⟨_, rfl⟩
          rw [hx] at c0 c1 c2 c3 HCN HVU HVK
          simp only at c0 c1 c2 c3 HVU HVK
          have hji : (j : Int) < (O.length : Int) := by omega
          have hbge := HOb.out _ rfl
          simp only at hbge
          have HNC : Hid (∀ w', Gr wr w' → ∀ a, highAd (some ⟨b2, off2, none⟩) cap2 (j + 1) = some a → ∀ q u, (actV (O.drop (j + 1)))[q]? = some u → w'.cell? (a.add q) = some u) := by
            intro w' g a ha
            have := (HOA.out.gr g).high cap2 (j + 1) hcp
            rw [ha] at this
            have hsp : a.spot = none := by
              unfold highAd at ha
              split at ha
              · cases ha; rfl
              · rw [Option.map_some, Addr.add_lit] at ha; cases ha; rfl
            obtain ⟨ab, ao, asp⟩ := a
            simp only at hsp
            subst hsp
            exact this.news
          obtain ⟨H2, hH2⟩ : ∃ a, highAd (some ⟨b2, off2, none⟩) cap2 (j + 1) = some a := by
            unfold highAd
            split
            · exact ⟨_, rfl⟩
            · exact ⟨_, rfl⟩
          have hsl := slice_low (some ⟨b2, off2, none⟩) O.length cap2 j (by omega) hcp
          have hsh : ∀ W : World, (Instr.sliceAt 41 (.slice (some ⟨b2, off2, none⟩) O.length cap2) (some (.int .i64 ((j : Int) + 1))) none none).run Try.prog W = .ok (.slice (some H2) (O.length - (j + 1)) (cap2 - (j + 1))) W := by
            intro W
            have := slice_high (some ⟨b2, off2, none⟩) O.length cap2 (j + 1) (by omega) W
            rw [hH2] at this
            exact this
          have HNC := HNC.out
          replace HNC : Hid (∀ w', Gr wr w' → ∀ q u, (actV (O.drop (j + 1)))[q]? = some u → w'.cell? (H2.add q) = some u) := fun w' g => HNC w' g H2 hH2
          have hwj : IntKind.i64.wrap ((j : Int) + 1) = (j : Int) + 1 := by rw [IntKind.wrap_i64]; omega
          have hO3 : O.length ≤ 300 := by omega
          have HUN : Hid (∀ w', Calls Try.prog 18 #[.agg #[.int .i64 h, .int .i64 i, .int .i64 o], .bool xo, .int .i64 xa] w' fun e w2 => e = .returned (.tuple #[.agg #[.int .i64 (Pot.sg xo (h + xa) (h - xa)), .int .i64 (Pot.sg xo i (i - xa)), .int .i64 (Pot.sg xo (o - xa) o)], .int .i64 0]) ∧ Gr w' w2) := fun w' => undo_yes h i o xa xo w' HCN.out
          have HKE : Hid (∀ w', Calls Try.prog 20 #[.agg #[.int .i64 h, .int .i64 i, .int .i64 o], .bool xo, .int .i64 xa] w' fun e w2 => e = .returned (.tuple #[.agg #[.int .i64 h, .int .i64 (Pot.sg xo i (i - xa)), .int .i64 (Pot.sg xo (o - xa) o)], .int .i64 0]) ∧ Gr w' w2) := fun w' => keep_yes h i o xa xo w' HCN.out
          have HCU : Hid (∀ w', Calls Try.prog 9 #[.agg #[.int .i64 (Pot.sg xo (h + xa) (h - xa)), .int .i64 (Pot.sg xo i (i - xa)), .int .i64 (Pot.sg xo (o - xa) o)]] w' fun e w2 => e = .returned (.int .i64 0) ∧ Gr w' w2) := fun w' => check_ok _ _ _ w' HVU.may
          have HCK : Hid (∀ w', Calls Try.prog 9 #[.agg #[.int .i64 h, .int .i64 (Pot.sg xo i (i - xa)), .int .i64 (Pot.sg xo (o - xa) o)]] w' fun e w2 => e = .returned (.int .i64 0) ∧ Gr w' w2) := fun w' => check_ok _ _ _ w' HVK.may
          have hxa := HV.out.fit O[j] (List.getElem_mem hjl)
          rw [hx] at hxa
          simp only at hxa
          generalize Pot.sg xo (h + xa) (h - xa) = hu at *
          generalize Pot.sg xo i (i - xa) = iu at *
          generalize Pot.sg xo (o - xa) o = ou at *
          clear hbad hx hH2
          rcases hkk with rfl | rfl
          · have hc3 : ((wr.alloc (.cells #[.int .i64 1, .bool out, .int .i64 amt, .int .i64 (j : Int)] 45)).alloc (.cells #[.int .i64 xk, .bool xo, .int .i64 xa, .int .i64 xw] 45)).cell? ⟨wr.heap.size, 3, none⟩ = some (.int .i64 (j : Int)) := by simp
            have HNA : Hid (∀ w', Gr ((wr.alloc (.cells #[.int .i64 1, .bool out, .int .i64 amt, .int .i64 (j : Int)] 45)).alloc (.cells #[.int .i64 xk, .bool xo, .int .i64 xa, .int .i64 xw] 45)) w' → ∀ q u, (actV (O.take j))[q]? = some u → w'.cell? ((⟨b2, off2, none⟩ : Addr).add q) = some u) := fun w' g => ((HOA.out.gr (((Gr.refl wr).alloc.alloc).trans g)).take j).news
            have HNB : Hid (∀ w', Gr ((wr.alloc (.cells #[.int .i64 1, .bool out, .int .i64 amt, .int .i64 (j : Int)] 45)).alloc (.cells #[.int .i64 xk, .bool xo, .int .i64 xa, .int .i64 xw] 45)) w' → ∀ q u, (actV (O.drop (j + 1)))[q]? = some u → w'.cell? (H2.add q) = some u) := fun w' g => HNC.out w' (((Gr.refl wr).alloc.alloc).trans g)
            go_wp2_with fail
            go_region_held3 (fun w' => Gr ((wr.alloc (.cells #[.int .i64 1, .bool out, .int .i64 amt, .int .i64 (j : Int)] 45)).alloc (.cells #[.int .i64 xk, .bool xo, .int .i64 xa, .int .i64 xw] 45)) w' ∧ w'.cell? ⟨wr.heap.size, 3, none⟩ = some (.int .i64 (j : Int)))
              ((first | exact ⟨gA, Gr.keep gA hc3⟩ | exact ⟨(by repeat (first | exact Gr.refl _ | refine Gr.alloc ?_ | refine Gr.drew ?_ | refine Gr.trans ?_ (by assumption))), Gr.keep (by repeat (first | exact Gr.refl _ | refine Gr.alloc ?_ | refine Gr.drew ?_ | refine Gr.trans ?_ (by assumption))) hc3⟩))
              ((first
                | (refine step_append_own (by rfl) _ _ 41 (by rfl) ((wr.alloc (.cells #[.int .i64 1, .bool out, .int .i64 amt, .int .i64 (j : Int)] 45)).alloc (.cells #[.int .i64 xk, .bool xo, .int .i64 xa, .int .i64 xw] 45)).heap.size 45 i0 (.agg #[.int .i64 0, .bool false, .int .i64 0, .int .i64 0]) 4 32 Try.underlying41 hi hz0 hz1 hz2 rfl (by decide) _ 0 [] (by rfl) (own_lit0 _ _ _ _ (by simp) (by simp)) ⟨b2, off2, none⟩ j cap2 (actV (O.take j)) (by rfl) (by rw [actV_len, List.length_take]; omega) (HNA.out _ (by repeat (first | exact Gr.refl _ | refine Gr.alloc ?_ | refine Gr.drew ?_ | refine Gr.trans ?_ (by assumption)))) (actV_one _) (by unfold maxLen; omega) (by omega) (by simp) ?_; intro v1 w2 hown1 hgrow1 hn1; have gA : Gr ((wr.alloc (.cells #[.int .i64 1, .bool out, .int .i64 amt, .int .i64 (j : Int)] 45)).alloc (.cells #[.int .i64 xk, .bool xo, .int .i64 xa, .int .i64 xw] 45)) w2 := (by exact Gr.grown (by repeat (first | exact Gr.refl _ | refine Gr.alloc ?_ | refine Gr.drew ?_ | refine Gr.trans ?_ (by assumption))) hgrow1 (by intro g hg; simp [Value.ownBlock] at hg; simp; omega)))
                | (refine step_append_own (by rfl) _ _ 41 (by rfl) ((wr.alloc (.cells #[.int .i64 1, .bool out, .int .i64 amt, .int .i64 (j : Int)] 45)).alloc (.cells #[.int .i64 xk, .bool xo, .int .i64 xa, .int .i64 xw] 45)).heap.size 45 i0 (.agg #[.int .i64 0, .bool false, .int .i64 0, .int .i64 0]) 4 32 Try.underlying41 hi hz0 hz1 hz2 rfl (by decide) _ _ _ (by rfl) hown1 H2 (O.length - (j + 1)) (cap2 - (j + 1)) (actV (O.drop (j + 1))) (by rfl) (by rw [actV_len, List.length_drop]) (HNB.out _ gA) (actV_one _) (by unfold maxLen; omega) (by omega) (by have := gA.size; simpa using this) ?_; intro v2 w3 hown2 hgrow2 hn2; have gB := gA; clear gA; have gA : Gr ((wr.alloc (.cells #[.int .i64 1, .bool out, .int .i64 amt, .int .i64 (j : Int)] 45)).alloc (.cells #[.int .i64 xk, .bool xo, .int .i64 xa, .int .i64 xw] 45)) w3 := (by exact Gr.grown gB hgrow2 (fun g hg => (hown1.lt g hg).1)))))
            have gw : Gr wr w3 := ((Gr.refl wr).alloc.alloc).trans gA
            have q0 : w3.cell? ⟨wr.heap.size, 0, none⟩ = some (.int .i64 1) := gA.keep (by simp)
            have x1 : w3.cell? ⟨wr.heap.size + 1, 1, none⟩ = some (.bool xo) := gA.keep (by simp)
            have x2 : w3.cell? ⟨wr.heap.size + 1, 2, none⟩ = some (.int .i64 xa) := gA.keep (by simp)
            have hs3 : wr.heap.size + 1 < w3.heap.size := by have := gA.size; simp at this; omega
            have HO3 : Hid (w3.ownsRow (w.heap.size + 1 + 1) 45 4 v2 (O.take j ++ O.drop (j + 1)).length (actV (O.take j ++ O.drop (j + 1)))) := by
              show World.ownsRow _ _ _ _ _ _ _
              have := own_low (base' := w.heap.size + 1 + 1) hown2 (by simp; omega)
              rw [List.length_append, List.length_take, List.length_drop, actV_app, show min j O.length = j by omega]
              simpa using this
            have HBX3 : Hid (BoxAt w3 w.heap.size (.int .i64 0) (.int .i64 0) (.int .i64 0)) := HBX.out.gr gw
            have HBY3 : Hid (BoxAt w3 (w.heap.size + 1) (.int .i64 h) (.int .i64 i) (.int .i64 o)) := HBY.out.gr gw
            have HG3 : Hid (Gr w w3) := HG.out.trans gw
            have HLN : Hid ((O.take j ++ O.drop (j + 1)).length ≤ k) := by
              show _ ≤ _
              rw [List.length_append, List.length_take, List.length_drop]; omega
            clear hown2 hgrow2 hn2 hown1 hgrow1 hn1 gB gA gw y0 y1 y2 g0 g1 g2 d0 d1 d2 d3 c0 c1 c2 c3 hc3 HNA HNB HNC hsl hsh HO HOA HOb HBX HBY HG hwj
            generalize O.take j ++ O.drop (j + 1) = O' at *
            obtain ⟨y0, y1, y2, g0, g1, g2, ylt3⟩ := HBY3.out
            go_wp2_with fail
            refine (HUN.out _).mono ?_
            rintro e w4 ⟨rfl, hg4⟩
            have HBX4 : Hid (BoxAt w4 w.heap.size (.int .i64 0) (.int .i64 0) (.int .i64 0)) := HBX3.out.gr hg4
            have HBY4 : Hid (BoxAt w4 (w.heap.size + 1) (.int .i64 h) (.int .i64 i) (.int .i64 o)) := HBY3.out.gr hg4
            have HO4 := own_gr HO3.out hg4
            have HG4 : Hid (Gr w w4) := HG3.out.trans hg4
            have q0 := hg4.keep q0
            have hs4 : wr.heap.size < w4.heap.size := Nat.lt_of_le_of_lt (Nat.le_succ _) (Nat.lt_of_lt_of_le hs3 hg4.size)
            have hs5 : w.heap.size + 1 < w4.heap.size := Nat.lt_trans hsz hs4
            replace HO4 : Hid (w4.ownsRow (w.heap.size + 1 + 1) 45 4 v2 O'.length (actV O')) := HO4
            clear y0 y1 y2 g0 g1 g2 x1 x2 hg4 HBX3 HBY3 HO3 HG3
            go_wp2_with fail
            refine (HCU.out _).mono ?_
            rintro e w5 ⟨rfl, hg5⟩
            have HBX5 : Hid (BoxAt w5 w.heap.size (.int .i64 0) (.int .i64 0) (.int .i64 0)) := HBX4.out.gr ((Gr.refl _).alloc.trans hg5)
            have HBY5 : Hid (BoxAt w5 (w.heap.size + 1) (.int .i64 h) (.int .i64 i) (.int .i64 o)) := HBY4.out.gr ((Gr.refl _).alloc.trans hg5)
            have HO5 : Hid (w5.ownsRow (w.heap.size + 1 + 1) 45 4 v2 O'.length (actV O')) := own_gr HO4.out ((Gr.refl _).alloc.trans hg5)
            have HG5 : Hid (Gr w w5) := HG4.out.trans ((Gr.refl _).alloc.trans hg5)
            obtain ⟨z0, z1, z2, _, _, _, z6⟩ := (BoxAt.new w4 _ _ _ _ _ rfl).gr hg5
            clear HBX4 HBY4 HO4 HG4 hg5 q0
            obtain ⟨y0, y1, y2, g0, g1, g2, ylt5⟩ := HBY5.out
            go_wp2
            go_roundw
            case rel => exact ⟨k + 1, O', hu, iu, ou, kept, by omega, by go_num, rfl, by have := HLN.out; omega, HBX5.out.far3 _ (by omega) _ _ _, HBY5.out.set3 _ _ _, own_set3 HO5.out _ (by omega) _ _ _, HVU, HG5.out.set3 _ (by omega) _ _ _⟩
            case measure => simp [intOf]; omega
          · obtain ⟨hkr1, hkr2⟩ := hkr
            obtain ⟨hxa1, hxa2⟩ := hxa
            have hc3 : ((wr.alloc (.cells #[.int .i64 2, .bool out, .int .i64 amt, .int .i64 (j : Int)] 45)).alloc (.cells #[.int .i64 xk, .bool xo, .int .i64 xa, .int .i64 xw] 45)).cell? ⟨wr.heap.size, 3, none⟩ = some (.int .i64 (j : Int)) := by simp
            have HNA : Hid (∀ w', Gr ((wr.alloc (.cells #[.int .i64 2, .bool out, .int .i64 amt, .int .i64 (j : Int)] 45)).alloc (.cells #[.int .i64 xk, .bool xo, .int .i64 xa, .int .i64 xw] 45)) w' → ∀ q u, (actV (O.take j))[q]? = some u → w'.cell? ((⟨b2, off2, none⟩ : Addr).add q) = some u) := fun w' g => ((HOA.out.gr (((Gr.refl wr).alloc.alloc).trans g)).take j).news
            have HNB : Hid (∀ w', Gr ((wr.alloc (.cells #[.int .i64 2, .bool out, .int .i64 amt, .int .i64 (j : Int)] 45)).alloc (.cells #[.int .i64 xk, .bool xo, .int .i64 xa, .int .i64 xw] 45)) w' → ∀ q u, (actV (O.drop (j + 1)))[q]? = some u → w'.cell? (H2.add q) = some u) := fun w' g => HNC.out w' (((Gr.refl wr).alloc.alloc).trans g)
            go_wp2_with fail
            go_region_held3 (fun w' => Gr ((wr.alloc (.cells #[.int .i64 2, .bool out, .int .i64 amt, .int .i64 (j : Int)] 45)).alloc (.cells #[.int .i64 xk, .bool xo, .int .i64 xa, .int .i64 xw] 45)) w' ∧ w'.cell? ⟨wr.heap.size, 3, none⟩ = some (.int .i64 (j : Int)))
              ((first | exact ⟨gA, Gr.keep gA hc3⟩ | exact ⟨(by repeat (first | exact Gr.refl _ | refine Gr.alloc ?_ | refine Gr.drew ?_ | refine Gr.trans ?_ (by assumption))), Gr.keep (by repeat (first | exact Gr.refl _ | refine Gr.alloc ?_ | refine Gr.drew ?_ | refine Gr.trans ?_ (by assumption))) hc3⟩))
              ((first
                | (refine step_append_own (by rfl) _ _ 41 (by rfl) ((wr.alloc (.cells #[.int .i64 2, .bool out, .int .i64 amt, .int .i64 (j : Int)] 45)).alloc (.cells #[.int .i64 xk, .bool xo, .int .i64 xa, .int .i64 xw] 45)).heap.size 45 i0 (.agg #[.int .i64 0, .bool false, .int .i64 0, .int .i64 0]) 4 32 Try.underlying41 hi hz0 hz1 hz2 rfl (by decide) _ 0 [] (by rfl) (own_lit0 _ _ _ _ (by simp) (by simp)) ⟨b2, off2, none⟩ j cap2 (actV (O.take j)) (by rfl) (by rw [actV_len, List.length_take]; omega) (HNA.out _ (by repeat (first | exact Gr.refl _ | refine Gr.alloc ?_ | refine Gr.drew ?_ | refine Gr.trans ?_ (by assumption)))) (actV_one _) (by unfold maxLen; omega) (by omega) (by simp) ?_; intro v1 w2 hown1 hgrow1 hn1; have gA : Gr ((wr.alloc (.cells #[.int .i64 2, .bool out, .int .i64 amt, .int .i64 (j : Int)] 45)).alloc (.cells #[.int .i64 xk, .bool xo, .int .i64 xa, .int .i64 xw] 45)) w2 := (by exact Gr.grown (by repeat (first | exact Gr.refl _ | refine Gr.alloc ?_ | refine Gr.drew ?_ | refine Gr.trans ?_ (by assumption))) hgrow1 (by intro g hg; simp [Value.ownBlock] at hg; simp; omega)))
                | (refine step_append_own (by rfl) _ _ 41 (by rfl) ((wr.alloc (.cells #[.int .i64 2, .bool out, .int .i64 amt, .int .i64 (j : Int)] 45)).alloc (.cells #[.int .i64 xk, .bool xo, .int .i64 xa, .int .i64 xw] 45)).heap.size 45 i0 (.agg #[.int .i64 0, .bool false, .int .i64 0, .int .i64 0]) 4 32 Try.underlying41 hi hz0 hz1 hz2 rfl (by decide) _ _ _ (by rfl) hown1 H2 (O.length - (j + 1)) (cap2 - (j + 1)) (actV (O.drop (j + 1))) (by rfl) (by rw [actV_len, List.length_drop]) (HNB.out _ gA) (actV_one _) (by unfold maxLen; omega) (by omega) (by have := gA.size; simpa using this) ?_; intro v2 w3 hown2 hgrow2 hn2; have gB := gA; clear gA; have gA : Gr ((wr.alloc (.cells #[.int .i64 2, .bool out, .int .i64 amt, .int .i64 (j : Int)] 45)).alloc (.cells #[.int .i64 xk, .bool xo, .int .i64 xa, .int .i64 xw] 45)) w3 := (by exact Gr.grown gB hgrow2 (fun g hg => (hown1.lt g hg).1)))))
            have gw : Gr wr w3 := ((Gr.refl wr).alloc.alloc).trans gA
            have q0 : w3.cell? ⟨wr.heap.size, 0, none⟩ = some (.int .i64 2) := gA.keep (by simp)
            have x1 : w3.cell? ⟨wr.heap.size + 1, 1, none⟩ = some (.bool xo) := gA.keep (by simp)
            have x2 : w3.cell? ⟨wr.heap.size + 1, 2, none⟩ = some (.int .i64 xa) := gA.keep (by simp)
            have hs3 : wr.heap.size + 1 < w3.heap.size := by have := gA.size; simp at this; omega
            have HO3 : Hid (w3.ownsRow (w.heap.size + 1 + 1) 45 4 v2 (O.take j ++ O.drop (j + 1)).length (actV (O.take j ++ O.drop (j + 1)))) := by
              show World.ownsRow _ _ _ _ _ _ _
              have := own_low (base' := w.heap.size + 1 + 1) hown2 (by simp; omega)
              rw [List.length_append, List.length_take, List.length_drop, actV_app, show min j O.length = j by omega]
              simpa using this
            have HBX3 : Hid (BoxAt w3 w.heap.size (.int .i64 0) (.int .i64 0) (.int .i64 0)) := HBX.out.gr gw
            have HBY3 : Hid (BoxAt w3 (w.heap.size + 1) (.int .i64 h) (.int .i64 i) (.int .i64 o)) := HBY.out.gr gw
            have HG3 : Hid (Gr w w3) := HG.out.trans gw
            have HLN : Hid ((O.take j ++ O.drop (j + 1)).length ≤ k) := by
              show _ ≤ _
              rw [List.length_append, List.length_take, List.length_drop]; omega
            clear hown2 hgrow2 hn2 hown1 hgrow1 hn1 gB gA gw y0 y1 y2 g0 g1 g2 d0 d1 d2 d3 c0 c1 c2 c3 hc3 HNA HNB HNC hsl hsh HO HOA HOb HBX HBY HG hwj
            generalize O.take j ++ O.drop (j + 1) = O' at *
            obtain ⟨y0, y1, y2, g0, g1, g2, ylt3⟩ := HBY3.out
            go_wp2_with fail
            refine (HUN.out _).mono ?_
            rintro e w4 ⟨rfl, hg4⟩
            have HBX4 : Hid (BoxAt w4 w.heap.size (.int .i64 0) (.int .i64 0) (.int .i64 0)) := HBX3.out.gr hg4
            have HBY4 : Hid (BoxAt w4 (w.heap.size + 1) (.int .i64 h) (.int .i64 i) (.int .i64 o)) := HBY3.out.gr hg4
            have HO4 : Hid (w4.ownsRow (w.heap.size + 1 + 1) 45 4 v2 O'.length (actV O')) := own_gr HO3.out hg4
            have HNE : Hid (∀ g, v2.ownBlock = some g → g ≠ w4.heap.size) := fun g hg => Nat.ne_of_lt (HO4.out.lt g hg).2
            have HG4 : Hid (Gr w w4) := HG3.out.trans hg4
            have q0 := hg4.keep q0
            have x1 := hg4.keep x1
            have x2 := hg4.keep x2
            have hs4 : wr.heap.size < w4.heap.size := Nat.lt_of_le_of_lt (Nat.le_succ _) (Nat.lt_of_lt_of_le hs3 hg4.size)
            have hs6 : wr.heap.size + 1 < w4.heap.size := Nat.lt_of_lt_of_le hs3 hg4.size
            have hs5 : w.heap.size + 1 < w4.heap.size := Nat.lt_trans hsz hs4
            clear y0 y1 y2 g0 g1 g2 hg4 HBX3 HBY3 HO3 HG3
            obtain ⟨y0, y1, y2, g0, g1, g2, ylt4⟩ := HBY4.out
            go_wp2_with fail
            refine (HKE.out _).mono ?_
            rintro e w5 ⟨rfl, hg5⟩
            have HBX5 : Hid (BoxAt w5 w.heap.size (.int .i64 0) (.int .i64 0) (.int .i64 0)) := HBX4.out.gr ((Gr.refl _).alloc.trans hg5)
            have HBY5 : Hid (BoxAt w5 (w.heap.size + 1) (.int .i64 h) (.int .i64 i) (.int .i64 o)) := HBY4.out.gr ((Gr.refl _).alloc.trans hg5)
            have HO5 : Hid (w5.ownsRow (w.heap.size + 1 + 1) 45 4 v2 O'.length (actV O')) := own_gr HO4.out ((Gr.refl _).alloc.trans hg5)
            have HG5 : Hid (Gr w w5) := HG4.out.trans ((Gr.refl _).alloc.trans hg5)
            have HBZ5 : Hid (BoxAt w5 w4.heap.size (.int .i64 hu) (.int .i64 iu) (.int .i64 ou)) := (BoxAt.new w4 _ _ _ _ _ rfl).gr hg5
            have x1 := ((Gr.refl w4).alloc.trans hg5).keep x1
            have x2 := ((Gr.refl w4).alloc.trans hg5).keep x2
            have hs7 : w4.heap.size < w5.heap.size := HBZ5.out.lt
            have hs8 : wr.heap.size + 1 < w5.heap.size := Nat.lt_trans hs6 hs7
            have hs9 : w.heap.size + 1 < w5.heap.size := Nat.lt_trans hs5 hs7
            have hd1 : wr.heap.size + 1 ≠ w4.heap.size := Nat.ne_of_lt hs6
            have hd2 : w.heap.size + 1 ≠ w4.heap.size := Nat.ne_of_lt hs5
            clear y0 y1 y2 g0 g1 g2 hg5 HBX4 HBY4 HO4 HG4 q0
            obtain ⟨z0, z1, z2, zf0, zf1, zf2, z6⟩ := HBZ5.out
            cases xo
            all_goals
              go_wp2_with fail
              refine (HCK.out _).mono ?_
              rintro e w6 ⟨rfl, hg6⟩
              have GZ : Hid (Gr w (((w5.setCell ⟨w4.heap.size, 0, none⟩ (.int .i64 h)).setCell ⟨w4.heap.size, 1, none⟩ (.int .i64 iu)).setCell ⟨w4.heap.size, 2, none⟩ (.int .i64 ou))) := HG5.out.set3 _ (by omega) _ _ _
              have HBX6 : Hid (BoxAt w6 w.heap.size (.int .i64 0) (.int .i64 0) (.int .i64 0)) := (HBX5.out.far3 w4.heap.size (by omega) _ _ _).gr hg6
              have HBY6 : Hid (BoxAt w6 (w.heap.size + 1) (.int .i64 h) (.int .i64 i) (.int .i64 o)) := (HBY5.out.far3 w4.heap.size (by omega) _ _ _).gr hg6
              have HBZ6 : Hid (BoxAt w6 w4.heap.size (.int .i64 h) (.int .i64 iu) (.int .i64 ou)) := (HBZ5.out.set3 _ _ _).gr hg6
              have HO6 : Hid (w6.ownsRow (w.heap.size + 1 + 1) 45 4 v2 O'.length (actV O')) := own_gr (own_set3n HO5.out w4.heap.size HNE.out _ _ _) hg6
              have HG6 : Hid (Gr w w6) := GZ.out.trans hg6
              clear z0 z1 z2 zf0 zf1 zf2 z6 hg6 HBX5 HBY5 HBZ5 HO5 HG5 GZ x1 x2
              obtain ⟨z0, z1, z2, zf0, zf1, zf2, z6⟩ := HBZ6.out
              obtain ⟨y0, y1, y2, g0, g1, g2, ylt6⟩ := HBY6.out
              go_wp2
              go_roundw
              case rel => exact ⟨k + 1, O', h, iu, ou, _, by omega, by go_num, rfl, by have := HLN.out; omega, HBX6.out.far3 _ (by omega) _ _ _, HBY6.out.set3 _ _ _, own_set3 HO6.out _ (by omega) _ _ _, HVK, HG6.out.set3 _ (by omega) _ _ _⟩
              case measure => simp [intOf]; omega
    · have hke : k = A.length := by omega
      clear hlt
      obtain ⟨x0, x1, x2, f0, f1, f2, xlt⟩ := HBX.out
      have hge : ¬ ((k : Int) < (A.length : Int)) := by omega
      have HFar : Hid (∀ a, ad2 = some a → w.heap.size ≠ a.block) := fun a e => by have := HOb.out a e; omega
      go_wp2
      exact bodyPost_ret (v := .tuple #[.agg #[.int .i64 h, .int .i64 i, .int .i64 o], .slice ad2 O.length cap2, .int .i64 kept, .bool true]) (by simp [results, Try.results24, go_sem, x0, x1, x2]) rfl
        ⟨h, i, o, kept, O, ad2, ⟨cap2, rfl⟩, by omega, ((HOA.out.setFar _ _ HFar.out).setFar _ _ HFar.out).setFar _ _ HFar.out, HV.out, HG.out.set3 _ (by omega) _ _ _⟩
end Go.Proofs.Ytjifhfnigngcjaa
