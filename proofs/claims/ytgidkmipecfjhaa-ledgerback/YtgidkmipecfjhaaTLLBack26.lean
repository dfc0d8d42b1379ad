/- For every input the law LedgerBack answers true: whatever is called, all that is done can be undone, in either order; then each account has what it was opened with, and what was kept, and nothing is pending. -/
import Derived.Test.YtgidkmipecfjhaaTLLBack25
import Derived.BigRegion
namespace Go.Proofs.Ytgidkmipecfjhaa
open Go.ChangeShapes Go.WideShapes Go.ChangeAt Go.RowKit
open Led (Acc Mk)
abbrev UndoAt (W : World) (a1 : Option Addr) (c1 : Nat) (a2 : Option Addr) (c2 : Nat) (A : List Acc) (M : List Mk) (key : ByteArray) (A' : List Acc) (M' : List Mk) : Prop :=
  ∀ w', Gr W w' → Calls Try.prog 22 #[.agg #[.slice a1 A.length c1, .slice a2 M.length c2], .string key] w' fun e w2 => ∃ b1 d1 b2 d2, e = .returned (.tuple #[.agg #[.slice b1 A'.length d1, .slice b2 M'.length d2], .int .i64 0]) ∧ AccsAt w2 b1 A' ∧ MksAt w2 b2 M' ∧ (∀ p, b1 = some p → w'.heap.size ≤ p.block) ∧ (∀ p, b2 = some p → w'.heap.size ≤ p.block) ∧ Gr w' w2
theorem undo_at {W : World} {a1 : Option Addr} {c1 : Nat} {a2 : Option Addr} {c2 : Nat} {A : List Acc} {M : List Mk} {key : ByteArray} (h : LedAt W a1 a2 A M) (hs : key.size ≤ 9223372036854775807) (he : endE Act.chUn 2 A M key = 0) :
    UndoAt W a1 c1 a2 c2 A M key (endA Act.chUn 2 A M key) (endM 2 M key) := fun w' g =>
  (ownU_yes A M key a1 c1 a2 c2 w' (h.gr g) hs he).mono (by
    rintro e w2 ⟨v1, v2, rfl, h1, h2, h3⟩
    obtain ⟨b1, d1, rfl, _, _, r1, f1, _⟩ := own_row h1
    obtain ⟨b2, d2, rfl, _, _, r2, f2, _⟩ := own_row h2
    exact ⟨b1, d1, b2, d2, rfl, r1, r2, f1, f2, h3⟩)
structure LbAt (w : World) (g B1 B2 : Nat) (a1 : Option Addr) (c1 : Nat) (a2 : Option Addr) (c2 : Nat) (A : List Acc) (M : List Mk) : Prop where
  bx : TwoAt w g (.slice a1 A.length c1) (.slice a2 M.length c2)
  r1 : AccsAt w a1 A
  r2 : MksAt w a2 M
  o1 : Off B1 a1 A
  o2 : Off B1 a2 M
  p1 : Off B2 a1 A
  p2 : Off B2 a2 M
theorem LbAt.gr {w w' : World} {g B1 B2 : Nat} {a1 : Option Addr} {c1 : Nat} {a2 : Option Addr} {c2 : Nat} {A : List Acc} {M : List Mk} (h : LbAt w g B1 B2 a1 c1 a2 c2 A M) (k : Gr w w') : LbAt w' g B1 B2 a1 c1 a2 c2 A M :=
  ⟨h.bx.gr k, RowAt.gr h.r1 k, RowAt.gr h.r2 k, h.o1, h.o2, h.p1, h.p2⟩
theorem LbAt.far {w : World} {g B1 B2 : Nat} {a1 : Option Addr} {c1 : Nat} {a2 : Option Addr} {c2 : Nat} {A : List Acc} {M : List Mk} (h : LbAt w g B1 B2 a1 c1 a2 c2 A M) (b : Nat) (hb : b = B1 ∨ b = B2) (hne : b ≠ g) (v u : Value) : LbAt ((w.setCell ⟨b, 0, none⟩ v).setCell ⟨b, 1, none⟩ u) g B1 B2 a1 c1 a2 c2 A M := by
  have q1 : Off b a1 A := by rcases hb with rfl | rfl; exact h.o1; exact h.p1
  have q2 : Off b a2 M := by rcases hb with rfl | rfl; exact h.o2; exact h.p2
  exact ⟨(h.bx.far _ _ hne).far _ _ hne, (RowAt.setOff h.r1 _ _ q1).setOff _ _ q1, (RowAt.setOff h.r2 _ _ q2).setOff _ _ q2, h.o1, h.o2, h.p1, h.p2⟩
theorem LbAt.put {w : World} {g B1 B2 : Nat} {v u : Value} {b1 : Option Addr} {d1 : Nat} {b2 : Option Addr} {d2 : Nat} {A : List Acc} {M : List Mk} (hx : TwoAt w g v u) (h1 : AccsAt w b1 A) (h2 : MksAt w b2 M) (f1 : ∀ p, b1 = some p → B2 < p.block ∧ B1 < p.block) (f2 : ∀ p, b2 = some p → B2 < p.block ∧ B1 < p.block) (hg : g = B1 ∨ g = B2) :
    LbAt ((w.setCell ⟨g, 0, none⟩ (.slice b1 A.length d1)).setCell ⟨g, 1, none⟩ (.slice b2 M.length d2)) g B1 B2 b1 d1 b2 d2 A M := by
  have o1 : Off B1 b1 A := Or.inr fun p hp => by have := f1 p hp; omega
  have o2 : Off B1 b2 M := Or.inr fun p hp => by have := f2 p hp; omega
  have p1 : Off B2 b1 A := Or.inr fun p hp => by have := f1 p hp; omega
  have p2 : Off B2 b2 M := Or.inr fun p hp => by have := f2 p hp; omega
  have q1 : Off g b1 A := by rcases hg with rfl | rfl; exact o1; exact p1
  have q2 : Off g b2 M := by rcases hg with rfl | rfl; exact o2; exact p2
  exact ⟨hx.set2 _ _, (RowAt.setOff h1 _ _ q1).setOff _ _ q1, (RowAt.setOff h2 _ _ q2).setOff _ _ q2, o1, o2, p1, p2⟩
set_option maxHeartbeats 16000000 in
set_option maxRecDepth 100000 in
theorem ledgerBack_walk (T : List Cal) (ad : Option Addr) (cap : Nat) (w : World) (hA : CalsAt w ad T) (hn : T.length ≤ 9223372036854775807) (hT : ∀ q ∈ T, inC q) :
    Calls Try.prog 7 #[.slice ad T.length cap] w fun e w' => e = .returned (.bool true) ∧ Gr w w' := by
  have HA : Hid (∀ w', Calls Try.prog 9 #[] w' fun e w2 => e = .returned (.bool true) ∧ Gr w' w2) := fun w' => awake_any w'
  have HF := few_any T ad cap w hA hn
  generalize (decide (T.length ≤ 120) && T.all (fun q => decide (q.key.size ≤ 1000))) = fb at HF
  cases fb with
  | false =>
    have HFF : Hid (Calls Try.prog 26 #[.slice ad T.length cap] w fun e w' => e = .returned (.bool false) ∧ Gr w w') := HF
    clear HF
    go_enter Try.func7, Try.ntmps7
    go_wp2_with fail
    refine HFF.out.mono ?_
    rintro e w1 ⟨rfl, hg1⟩
    go_wp2_with fail
    refine (HA.out _).mono ?_
    rintro e w2 ⟨rfl, hg2⟩
    go_wp2
    go_ret
    exact ⟨rfl, (by repeat (first | exact Gr.refl _ | refine Gr.alloc ?_ | refine Gr.drew ?_ | refine Gr.trans ?_ (by assumption)))⟩
  | true =>
    obtain ⟨i0, hi, hz0, hz1, hz2⟩ := info_parts infoMk
    have HFF : Hid (Calls Try.prog 26 #[.slice ad T.length cap] w fun e w' => e = .returned (.bool true) ∧ Gr w w') := HF
    have HO : Hid (∀ w', Gr w w' → Calls Try.prog 28 #[.slice ad T.length cap] w' fun e w2 => OpR w' e w2) := fun w' g => opened_any T ad cap w' (hA.gr g) hn hT
    clear HF hA hT
    go_enter Try.func7, Try.ntmps7
    go_wp2_with fail
    refine HFF.out.mono ?_
    rintro e w1 ⟨rfl, hg1⟩
    go_wp2_with fail
    refine (HO.out _ hg1).mono ?_
    rintro e w2 ⟨A0, M0, F, a1, c1, a2, c2, a3, c3, rfl, hmay, hbal, hr1, hr2, hr3, hg2⟩
    have HM : Hid (Led.May A0 M0) := hmay
    have HB : Hid (Bal A0 M0 F) := hbal
    have HR1 : Hid (AccsAt w2 a1 A0) := hr1
    have HR2 : Hid (MksAt w2 a2 M0) := hr2
    have HR3 : Hid (AccsAt w2 a3 (F.map fA)) := hr3
    have HG2 : Hid (Gr w w2) := hg1.trans hg2
    have hFl : F.length ≤ 12 := by have := hmay.la; have := hbal.1; omega
    have hMl : M0.length ≤ 500 := hmay.lm
    clear hmay hbal hr1 hr2 hr3 hg1 hg2 HFF HO
    go_upto_region 5 with fail
    obtain ⟨wb, hwb⟩ : ∃ x, x = (w2.alloc (.cells #[.slice a1 A0.length c1, .slice a2 M0.length c2] 25)).alloc (.cells #[.slice a1 A0.length c1, .slice a2 M0.length c2] 25) := ⟨_, rfl⟩
    have HB1 : Hid (TwoAt wb w2.heap.size (.slice a1 A0.length c1) (.slice a2 M0.length c2)) := by show TwoAt _ _ _ _; rw [hwb]; exact (TwoAt.new w2 _ _ _ _ rfl).gr (Gr.refl _).alloc
    have HB2 : Hid (TwoAt wb (w2.heap.size + 1) (.slice a1 A0.length c1) (.slice a2 M0.length c2)) := by show TwoAt _ _ _ _; rw [hwb]; exact TwoAt.new _ _ _ _ _ (by simp)
    have HGB : Hid (Gr w2 wb) := by show Gr _ _; rw [hwb]; exact (Gr.refl _).alloc.alloc
    rw [← hwb]
    clear hwb
    have hsb : w2.heap.size + 1 < wb.heap.size := HB2.out.lt
    go_cut [6] (fun v wx => ∃ (a6 : Option Addr) (c6 : Nat), v = .slice a6 M0.length c6 ∧ MksAt wx a6 M0 ∧ (∀ a, a6 = some a → w2.heap.size + 1 < a.block) ∧ Gr wb wx)
    case first =>
      obtain ⟨x0, x1, _, _, xl⟩ := HB1.out
      cases a2 with
      | none =>
        have hnil := RowAt.none mkC_len (by omega) HR2.out
        subst hnil
        rw [List.length_nil] at *
        go_wp2_with (first
          | (at_builtin; refine append_gone rfl _ _ 23 rfl wb.heap.size 64 i0 5 Try.underlying23 hi _ _ _ rfl (own_litM _ _ _ _ (by simp) (by simp)) c2 rfl ?_)
          | fail)
        go_meet
        exact ⟨_, _, rfl, RowAt.nil, (fun a e => by cases e; show _ < wb.heap.size; omega), (Gr.refl _).alloc⟩
      | some am =>
        have hnews := (RowAt.gr HR2.out (HGB.out.alloc (o := .cells #[] 64))).news
        have HN : Hid (∀ j u, (M0.flatMap mkC)[j]? = some u → (wb.alloc (.cells #[] 64)).cell? (am.add j) = some u) := hnews
        have hln : (M0.flatMap mkC).length = M0.length * 5 := flat_len mkC_len M0
        have hm1 : 0 + M0.length ≤ maxLen := by unfold maxLen; omega
        clear hnews
        go_wp2_with (first
          | (at_builtin; refine wpList_append_own _ rfl _ _ 23 rfl wb.heap.size 64 i0 (.agg #[.string ⟨#[]⟩, .int .i64 0, .string ⟨#[]⟩, .int .i64 0, .int .i64 0]) 5 56 Try.underlying23 hi hz0 hz1 hz2 rfl (by decide) _ _ _ rfl (own_litM _ _ _ _ (by simp) (by simp)) am M0.length c2 (M0.flatMap mkC) rfl hln HN.out (mk_one M0) hm1 (by omega) (by simp) ?_)
          | fail)
        intro v6 w6 hown6 hgrow6 _
        have ho6 : w6.ownsRow wb.heap.size 64 5 v6 M0.length (M0.flatMap mkC) := by simpa using hown6
        obtain ⟨a6, c6, rfl, _, _, r6, f6, _⟩ := own_row ho6
        have HG6 : Hid (Gr wb w6) := Gr.grown (Gr.refl _).alloc hgrow6 (fun k hk => by simp [Value.ownBlock] at hk; omega)
        have HR6 : Hid (MksAt w6 a6 M0) := r6
        have HF6 : Hid (∀ a, a6 = some a → wb.heap.size ≤ a.block) := f6
        clear hown6 ho6 hgrow6 r6 f6
        go_wp2_with fail
        go_meet
        exact ⟨a6, c6, rfl, HR6.out, (fun a e => by have := HF6.out a e; omega), HG6.out⟩
    case rest =>
    obtain ⟨wm, rfl⟩ : ∃ x, x = wc := ⟨_, rfl⟩
    obtain ⟨a6, c6, rfl, hr6, hf6, hgm⟩ := hcut
    have HF6 : Hid (∀ a, a6 = some a → w2.heap.size + 1 < a.block) := hf6
    have hL0 : ∀ g, (TwoAt wm g (.slice a1 A0.length c1) (.slice a2 M0.length c2)) → LbAt wm g w2.heap.size (w2.heap.size + 1) a1 c1 a2 c2 A0 M0 := fun g hx =>
      ⟨hx, RowAt.gr HR1.out (HGB.out.trans hgm), RowAt.gr HR2.out (HGB.out.trans hgm), off_new accC_len (by decide) HR1.out (by omega), off_new mkC_len (by decide) HR2.out (by omega), off_new accC_len (by decide) HR1.out (by omega), off_new mkC_len (by decide) HR2.out (by omega)⟩
    have HI0 : Hid (∃ (A1 : List Acc) (M1 : List Mk) (A2 : List Acc) (M2 : List Mk) (b1 : Option Addr) (d1 : Nat) (b2 : Option Addr) (d2 : Nat) (b3 : Option Addr) (d3 : Nat) (b4 : Option Addr) (d4 : Nat), BkI F A0 M0 (fun j => decide (j < 0)) A1 M1 ∧ BkI F A0 M0 (fun j => decide (M0.length - 0 ≤ j)) A2 M2 ∧ LbAt wm w2.heap.size w2.heap.size (w2.heap.size + 1) b1 d1 b2 d2 A1 M1 ∧ LbAt wm (w2.heap.size + 1) w2.heap.size (w2.heap.size + 1) b3 d3 b4 d4 A2 M2 ∧ MksAt wm a6 M0 ∧ Gr w2 wm) :=
      ⟨A0, M0, A0, M0, a1, c1, a2, c2, a1, c1, a2, c2, BkI.start HM.out HB.out (fun j hj => by simp), BkI.start HM.out HB.out (fun j hj => by simp; omega), hL0 _ (HB1.out.gr hgm), hL0 _ (HB2.out.gr hgm), hr6, HGB.out.trans hgm⟩
    clear hr6 hf6 hgm hL0 HB1 HB2 HGB hsb HR1 HR2
    go_wp2
    go_loopw [7] (fun ix wr => ∃ k : Nat, k ≤ M0.length ∧ ix = .int .i64 (k : Int) ∧ ∃ (A1 : List Acc) (M1 : List Mk) (A2 : List Acc) (M2 : List Mk) (b1 : Option Addr) (d1 : Nat) (b2 : Option Addr) (d2 : Nat) (b3 : Option Addr) (d3 : Nat) (b4 : Option Addr) (d4 : Nat), BkI F A0 M0 (fun j => decide (j < k)) A1 M1 ∧ BkI F A0 M0 (fun j => decide (M0.length - k ≤ j)) A2 M2 ∧ LbAt wr w2.heap.size w2.heap.size (w2.heap.size + 1) b1 d1 b2 d2 A1 M1 ∧ LbAt wr (w2.heap.size + 1) w2.heap.size (w2.heap.size + 1) b3 d3 b4 d4 A2 M2 ∧ MksAt wr a6 M0 ∧ Gr w2 wr) (fun ix _ => M0.length - (intOf ix).toNat)
    case atStart => exact ⟨0, by omega, rfl, HI0.out⟩
    case round =>
      obtain ⟨k, hk, rfl, A1, M1, A2, M2, b1, d1, b2, d2, b3, d3, b4, d4, hk1, hk2, hl1, hl2, hr6, hg⟩ := hrel
      have HK1 : Hid (BkI F A0 M0 (fun j => decide (j < k)) A1 M1) := hk1
      have HK2 : Hid (BkI F A0 M0 (fun j => decide (M0.length - k ≤ j)) A2 M2) := hk2
      have HL1 : Hid (LbAt wr w2.heap.size w2.heap.size (w2.heap.size + 1) b1 d1 b2 d2 A1 M1) := hl1
      have HL2 : Hid (LbAt wr (w2.heap.size + 1) w2.heap.size (w2.heap.size + 1) b3 d3 b4 d4 A2 M2) := hl2
      have HR6 : Hid (MksAt wr a6 M0) := hr6
      have HGR : Hid (Gr w2 wr) := hg
      clear hk1 hk2 hl1 hl2 hr6 hg HI0
      by_cases hlt : k < M0.length
      · obtain ⟨bm, om, rfl, hbm, e0, e1, e2, e3, e4⟩ := MksAt.at HR6.out k hlt
        obtain ⟨y, hy⟩ : ∃ y, y = M0.length - 1 - k := ⟨_, rfl⟩
        have hyl : y < M0.length := by omega
        obtain ⟨_, _, ee, _, f0, f1, f2, f3, f4⟩ := MksAt.at HR6.out y hyl
        cases ee
        have hw1 : IntKind.i64.wrap ((M0.length : Int) - 1) = ((M0.length - 1 : Nat) : Int) := by rw [IntKind.wrap_i64]; omega
        have hw2 : IntKind.i64.wrap (((M0.length - 1 : Nat) : Int) - (k : Int)) = (y : Int) := by rw [IntKind.wrap_i64]; omega
        have hyi : ((y : Nat) : Int) < (M0.length : Int) := by omega
        have HY : Hid (y = M0.length - 1 - k) := hy
        clear hy
        go_upto_region 9 with fail
        go_cut [8, 9] (fun sp sq wx => ∃ X Y : Nat, sp = .pointer (some ⟨X, 0, none⟩) ∧ sq = .pointer (some ⟨Y, 0, none⟩) ∧ (X < wx.heap.size ∧ Y < wx.heap.size ∧ wr.heap.size ≤ Y ∧ wr.heap.size ≤ X) ∧ wx.cell? ⟨X, 0, none⟩ = some (.string M0[k].key) ∧ wx.cell? ⟨X, 4, none⟩ = some (.int .i64 M0[k].st) ∧ wx.cell? ⟨Y, 0, none⟩ = some (.string M0[y].key) ∧ wx.cell? ⟨Y, 4, none⟩ = some (.int .i64 M0[y].st) ∧ Gr wr wx)
        case first =>
          go_region
          all_goals
            go_wp2_with fail
            go_meet
            exact ⟨_, _, rfl, rfl, ⟨by first | (simp; done) | (simp; omega), by first | (simp; done) | (simp; omega), by first | (simp; done) | (simp; omega), by first | (simp; done) | (simp; omega)⟩, by simp, by simp, by simp, by simp, (by (with_reducible repeat' (first | exact Gr.refl _ | refine Gr.set ?_ _ ?_ _ | refine Gr.alloc ?_ | refine Gr.drew ?_ | refine Gr.trans ?_ (by assumption))) <;> (first | (simp; done) | (simp; omega) | omega))⟩
        case rest =>
        obtain ⟨wx, rfl⟩ : ∃ x, x = wc := ⟨_, rfl⟩
        obtain ⟨X, Y, rfl, rfl, ⟨hX, hY, hY2, hX2⟩, x0, x4, y0, y4, hgx⟩ := hcut
        have HL1x : Hid (LbAt wx w2.heap.size w2.heap.size (w2.heap.size + 1) b1 d1 b2 d2 A1 M1) := HL1.out.gr hgx
        have HL2x : Hid (LbAt wx (w2.heap.size + 1) w2.heap.size (w2.heap.size + 1) b3 d3 b4 d4 A2 M2) := HL2.out.gr hgx
        have HR6x : Hid (MksAt wx (some ⟨bm, om, none⟩) M0) := RowAt.gr HR6.out hgx
        have HGx : Hid (Gr w2 wx) := HGR.out.trans hgx
        have hBl : w2.heap.size + 1 < wr.heap.size := HL2.out.bx.lt
        have hk1s : M0[k].key.size ≤ 9223372036854775807 := by have := ((Led.mk_iff A0 _).1 (HM.out.om _ (List.getElem_mem hlt))).1; omega
        have hk2s : M0[y].key.size ≤ 9223372036854775807 := by have := ((Led.mk_iff A0 _).1 (HM.out.om _ (List.getElem_mem hyl))).1; omega
        have hBx : w2.heap.size + 1 < wx.heap.size := HL2x.out.bx.lt
        clear e0 e1 e2 e3 e4 f0 f1 f2 f3 f4 hw1 hw2 hyi hbm hgx HL1 HL2 HR6 HGR
        go_upto_if 54 with fail
        go_cut [9] (fun sq wz => sq = .pointer (some ⟨Y, 0, none⟩) ∧ ∃ (A3 : List Acc) (M3 : List Mk) (n1 : Option Addr) (m1 : Nat) (n2 : Option Addr) (m2 : Nat), BkI F A0 M0 (fun j => decide (j < k + 1)) A3 M3 ∧ LbAt wz w2.heap.size w2.heap.size (w2.heap.size + 1) n1 m1 n2 m2 A3 M3 ∧ LbAt wz (w2.heap.size + 1) w2.heap.size (w2.heap.size + 1) b3 d3 b4 d4 A2 M2 ∧ MksAt wz (some ⟨bm, om, none⟩) M0 ∧ wz.cell? ⟨Y, 0, none⟩ = some (.string M0[y].key) ∧ wz.cell? ⟨Y, 4, none⟩ = some (.int .i64 M0[y].st) ∧ Y < wz.heap.size ∧ Gr w2 wz)
        case first =>
          obtain ⟨q0, q1, qf0, qf1, ql⟩ := HL1x.out.bx
          by_cases hst : M0[k].st = 1
          · obtain ⟨he, hk'⟩ := HK1.out.step (P' := fun j => decide (j < k + 1)) k hlt hst (by simp) (by simp) (fun j _ hne => by simp; omega)
            have HKN : Hid (BkI F A0 M0 (fun j => decide (j < k + 1)) (endA Act.chUn 2 A1 M1 M0[k].key) (endM 2 M1 M0[k].key)) := hk'
            have HU : Hid (UndoAt wx b1 d1 b2 d2 A1 M1 M0[k].key (endA Act.chUn 2 A1 M1 M0[k].key) (endM 2 M1 M0[k].key)) := undo_at (led_of HK1.out.may HL1x.out.r1 HL1x.out.r2) hk1s he
            have hq1 : (M0[k].st == 1) = true := by simpa using hst
            clear he hk' hst
            generalize endA Act.chUn 2 A1 M1 M0[k].key = A3 at *
            generalize endM 2 M1 M0[k].key = M3 at *
            go_wp2_with fail
            refine (HU.out _ (Gr.refl _)).mono ?_
            rintro e wn ⟨n1, m1, n2, m2, rfl, hi1, hi2, hf1, hf2, hgn⟩
            have HLN := LbAt.put (B1 := w2.heap.size) (B2 := w2.heap.size + 1) (d1 := m1) (d2 := m2) (HL1x.out.bx.gr hgn) hi1 hi2 (fun p e => by have := hf1 p e; omega) (fun p e => by have := hf2 p e; omega) (Or.inl rfl)
            have HL3 : Hid (LbAt ((wn.setCell ⟨w2.heap.size, 0, none⟩ (.slice n1 A3.length m1)).setCell ⟨w2.heap.size, 1, none⟩ (.slice n2 M3.length m2)) w2.heap.size w2.heap.size (w2.heap.size + 1) n1 m1 n2 m2 A3 M3) := HLN
            have HL4 : Hid (LbAt ((wn.setCell ⟨w2.heap.size, 0, none⟩ (.slice n1 A3.length m1)).setCell ⟨w2.heap.size, 1, none⟩ (.slice n2 M3.length m2)) (w2.heap.size + 1) w2.heap.size (w2.heap.size + 1) b3 d3 b4 d4 A2 M2) := (HL2x.out.gr hgn).far _ (Or.inl rfl) (by omega) _ _
            have HR7 : Hid (MksAt ((wn.setCell ⟨w2.heap.size, 0, none⟩ (.slice n1 A3.length m1)).setCell ⟨w2.heap.size, 1, none⟩ (.slice n2 M3.length m2)) (some ⟨bm, om, none⟩) M0) := (RowAt.setFar (RowAt.gr HR6x.out hgn) _ _ (fun a e => by have := HF6.out a e; simp; omega)).setFar _ _ (fun a e => by have := HF6.out a e; simp; omega)
            have HG7 : Hid (Gr w2 ((wn.setCell ⟨w2.heap.size, 0, none⟩ (.slice n1 A3.length m1)).setCell ⟨w2.heap.size, 1, none⟩ (.slice n2 M3.length m2))) := ((HGx.out.trans hgn).set _ (by simp) _).set _ (by simp) _
            have HYC : Hid (((wn.setCell ⟨w2.heap.size, 0, none⟩ (.slice n1 A3.length m1)).setCell ⟨w2.heap.size, 1, none⟩ (.slice n2 M3.length m2)).cell? ⟨Y, 0, none⟩ = some (.string M0[y].key) ∧ ((wn.setCell ⟨w2.heap.size, 0, none⟩ (.slice n1 A3.length m1)).setCell ⟨w2.heap.size, 1, none⟩ (.slice n2 M3.length m2)).cell? ⟨Y, 4, none⟩ = some (.int .i64 M0[y].st) ∧ Y < wn.heap.size) := ⟨by rw [World.cell?_setCell_far _ _ _ _ (by simp; omega), World.cell?_setCell_far _ _ _ _ (by simp; omega)]; exact hgn.keep y0, by rw [World.cell?_setCell_far _ _ _ _ (by simp; omega), World.cell?_setCell_far _ _ _ _ (by simp; omega)]; exact hgn.keep y4, Nat.lt_of_lt_of_le hY hgn.size⟩
            obtain ⟨q0, q1, qf0, qf1, ql⟩ := HL1x.out.bx.gr hgn
            clear HLN hi1 hi2 hf1 hf2 hgn x0 x4 y0 y4
            go_wp2_with fail
            go_meet
            exact ⟨rfl, A3, M3, n1, m1, n2, m2, HKN.out, HL3.out.gr (Gr.refl _).alloc, HL4.out.gr (Gr.refl _).alloc, RowAt.alloc HR7.out, (Gr.refl _).alloc.keep HYC.out.1, (Gr.refl _).alloc.keep HYC.out.2.1, by simp; have := HYC.out.2.2; omega, HG7.out.alloc⟩
          · have hne : (M0[k].st == 1) = false := by simpa using hst
            have HKN : Hid (BkI F A0 M0 (fun j => decide (j < k + 1)) A1 M1) := HK1.out.skip (fun j hj => by
              by_cases e : j = k
              · subst e
                exact ⟨fun h => absurd h.2 hst, fun h => absurd h.2 hst⟩
              · have : decide (j < k) = decide (j < k + 1) := by simp; omega
                rw [this])
            clear hst
            go_wp2_with fail
            go_meet
            exact ⟨rfl, A1, M1, b1, d1, b2, d2, HKN.out, HL1x.out, HL2x.out, HR6x.out, y0, y4, hY, HGx.out⟩
        case rest =>
        obtain ⟨wz, rfl⟩ : ∃ x, x = wc := ⟨_, rfl⟩
        obtain ⟨rfl, A3, M3, n1, m1, n2, m2, hk3, hl3, hl4, hr7, y0, y4, hY3, hgz⟩ := hcut
        have HK3 : Hid (BkI F A0 M0 (fun j => decide (j < k + 1)) A3 M3) := hk3
        have HL3 : Hid (LbAt wz w2.heap.size w2.heap.size (w2.heap.size + 1) n1 m1 n2 m2 A3 M3) := hl3
        have HL4 : Hid (LbAt wz (w2.heap.size + 1) w2.heap.size (w2.heap.size + 1) b3 d3 b4 d4 A2 M2) := hl4
        have HR7 : Hid (MksAt wz (some ⟨bm, om, none⟩) M0) := hr7
        have HGz : Hid (Gr w2 wz) := hgz
        clear hk3 hl3 hl4 hr7 hgz HK1 HL1x HL2x HR6x HGx hX hY hX2 x0 x4 hk1s hBx
        have hBz : w2.heap.size + 1 < wz.heap.size := HL4.out.bx.lt
        have hyk : y = M0.length - 1 - k := HY.out
        by_cases hst : M0[y].st = 1
        · obtain ⟨he, hk'⟩ := HK2.out.step (P' := fun j => decide (M0.length - (k + 1) ≤ j)) y hyl hst (by simp; omega) (by simp; omega) (fun j _ hne => by simp; omega)
          have HKN : Hid (BkI F A0 M0 (fun j => decide (M0.length - (k + 1) ≤ j)) (endA Act.chUn 2 A2 M2 M0[y].key) (endM 2 M2 M0[y].key)) := hk'
          have HU : Hid (UndoAt wz b3 d3 b4 d4 A2 M2 M0[y].key (endA Act.chUn 2 A2 M2 M0[y].key) (endM 2 M2 M0[y].key)) := undo_at (led_of HK2.out.may HL4.out.r1 HL4.out.r2) hk2s he
          rw [hst] at y4
          clear he hk' hst hyk
          generalize endA Act.chUn 2 A2 M2 M0[y].key = A4 at *
          generalize endM 2 M2 M0[y].key = M4 at *
          obtain ⟨q0, q1, qf0, qf1, ql⟩ := HL4.out.bx
          go_wp2_with fail
          refine (HU.out _ (Gr.refl _)).mono ?_
          rintro e wn ⟨r1, s1, r2, s2, rfl, hi1, hi2, hf1, hf2, hgn⟩
          have HLN := LbAt.put (B1 := w2.heap.size) (B2 := w2.heap.size + 1) (d1 := s1) (d2 := s2) (HL4.out.bx.gr hgn) hi1 hi2 (fun p e => by have := hf1 p e; omega) (fun p e => by have := hf2 p e; omega) (Or.inr rfl)
          have HL5 : Hid (LbAt ((wn.setCell ⟨w2.heap.size + 1, 0, none⟩ (.slice r1 A4.length s1)).setCell ⟨w2.heap.size + 1, 1, none⟩ (.slice r2 M4.length s2)) (w2.heap.size + 1) w2.heap.size (w2.heap.size + 1) r1 s1 r2 s2 A4 M4) := HLN
          have HL6 : Hid (LbAt ((wn.setCell ⟨w2.heap.size + 1, 0, none⟩ (.slice r1 A4.length s1)).setCell ⟨w2.heap.size + 1, 1, none⟩ (.slice r2 M4.length s2)) w2.heap.size w2.heap.size (w2.heap.size + 1) n1 m1 n2 m2 A3 M3) := (HL3.out.gr hgn).far _ (Or.inr rfl) (by omega) _ _
          have HR8 : Hid (MksAt ((wn.setCell ⟨w2.heap.size + 1, 0, none⟩ (.slice r1 A4.length s1)).setCell ⟨w2.heap.size + 1, 1, none⟩ (.slice r2 M4.length s2)) (some ⟨bm, om, none⟩) M0) := (RowAt.setFar (RowAt.gr HR7.out hgn) _ _ (fun a e => by have := HF6.out a e; simp; omega)).setFar _ _ (fun a e => by have := HF6.out a e; simp; omega)
          have HG8 : Hid (Gr w2 ((wn.setCell ⟨w2.heap.size + 1, 0, none⟩ (.slice r1 A4.length s1)).setCell ⟨w2.heap.size + 1, 1, none⟩ (.slice r2 M4.length s2))) := ((HGz.out.trans hgn).set _ (by simp) _).set _ (by simp) _
          obtain ⟨q0, q1, qf0, qf1, ql⟩ := HL4.out.bx.gr hgn
          clear HLN hi1 hi2 hf1 hf2 hgn y0 y4
          go_wp2
          go_roundw
          case rel => exact ⟨k + 1, by omega, by go_num, A3, M3, A4, M4, n1, m1, n2, m2, r1, s1, r2, s2, HK3.out, HKN.out, HL6.out.gr (Gr.refl _).alloc, HL5.out.gr (Gr.refl _).alloc, RowAt.alloc HR8.out, HG8.out.alloc⟩
          case measure => simp [intOf]; omega
        · have hne : (M0[y].st == 1) = false := by simpa using hst
          have HKN : Hid (BkI F A0 M0 (fun j => decide (M0.length - (k + 1) ≤ j)) A2 M2) := HK2.out.skip (fun j hj => by
            by_cases e : j = y
            · subst e
              exact ⟨fun h => absurd h.2 hst, fun h => absurd h.2 hst⟩
            · have : decide (M0.length - k ≤ j) = decide (M0.length - (k + 1) ≤ j) := by simp; omega
              rw [this])
          clear hst hyk
          go_wp2
          go_roundw
          case rel => exact ⟨k + 1, by omega, by go_num, A3, M3, A2, M2, n1, m1, n2, m2, b3, d3, b4, d4, HK3.out, HKN.out, HL3.out, HL4.out, HR7.out, HGz.out⟩
          case measure => simp [intOf]; omega
      · obtain rfl : k = M0.length := by omega
        obtain ⟨rfl, rfl⟩ := HK1.out.one HK2.out (fun j hj => by simp; omega) (fun j hj => by simp)
        have HS : Hid (∀ w', Gr wr w' → Calls Try.prog 25 #[.agg #[.slice b1 A2.length d1, .slice b2 M2.length d2], .agg #[.slice b3 A2.length d3, .slice b4 M2.length d4]] w' fun e w2' => e = .returned (.bool true) ∧ Gr w' w2') := fun w' g =>
          same7_eq A2 M2 b1 b2 b3 b4 d1 d2 d3 d4 w' (RowAt.gr HL1.out.r1 g) (RowAt.gr HL1.out.r2 g) (RowAt.gr HL2.out.r1 g) (RowAt.gr HL2.out.r2 g) (by have := HK1.out.may.la; omega) (by have := HK1.out.may.lm; omega)
        obtain ⟨q0, q1, _, _, ql⟩ := HL1.out.bx
        obtain ⟨p0, p1, _, _, pl⟩ := HL2.out.bx
        go_wp2_with fail
        refine (HS.out _ (Gr.refl _)).mono ?_
        rintro e ws ⟨rfl, hgs⟩
        have HBs : Hid (TwoAt ws w2.heap.size (.slice b1 A2.length d1) (.slice b2 M2.length d2)) := HL1.out.bx.gr hgs
        have HR1s : Hid (AccsAt ws b1 A2) := RowAt.gr HL1.out.r1 hgs
        have HR2s : Hid (MksAt ws b2 M2) := RowAt.gr HL1.out.r2 hgs
        have HGs : Hid (Gr w2 ws) := HGR.out.trans hgs
        have HKs : Hid (BkI F A0 M0 (fun j => decide (j < M0.length)) A2 M2) := HK1.out
        clear q0 q1 ql p0 p1 pl hgs HS HL1 HL2 HR6 HGR HK1 HK2 hlt
        go_wp2
        go_loopw [14] (fun ix wr => ∃ k : Nat, k ≤ F.length ∧ ix = .int .i64 (k : Int) ∧ Gr ws wr) (fun ix _ => F.length - (intOf ix).toNat)
        case atStart => exact ⟨0, by omega, rfl, Gr.refl _⟩
        case round =>
          obtain ⟨k, hk', rfl, hg⟩ := hrel
          have HGR : Hid (Gr ws wr) := hg
          have HBR : Hid (TwoAt wr w2.heap.size (.slice b1 A2.length d1) (.slice b2 M2.length d2)) := HBs.out.gr hg
          clear hg
          obtain ⟨wo, hwo⟩ : ∃ x : World, x = wr := ⟨_, rfl⟩
          subst hwo
          by_cases hlt : k < F.length
          · obtain ⟨x, hxA, f1, f2, f3, f4, f5, f6, f7, f8, f9⟩ := bal_one HKs.out.may HKs.out.bal k hlt
            obtain ⟨v1, v2, v3, v4⟩ := HKs.out.zero (fun j hj => by simp; omega) hxA
            obtain ⟨bf, of, rfl, hbf, e0, e1, _⟩ := AccsAt.at HR3.out k (by simpa using hlt)
            rw [List.getElem_map] at e0 e1
            have e0 : w2.cell? ⟨bf, of + k * 7, none⟩ = some (.string F[k].1) := e0
            have e1 : w2.cell? ⟨bf, of + k * 7 + 1, none⟩ = some (.int .i64 F[k].2) := e1
            have HFD : Hid (∀ w', Gr ws w' → Calls Try.prog 10 #[.agg #[.slice b1 A2.length d1, .slice b2 M2.length d2], .string F[k].1] w' fun e w2' => e = .returned (.tuple #[.agg #[.string x.s, .int .i64 x.a, .int .i64 0, .int .i64 0, .int .i64 x.x, .int .i64 0, .int .i64 0], .bool true]) ∧ Gr w' w2') := fun w' g => by
              have := find7_any A2 M2 F[k].1 b1 d1 b2 d2 w' ((led_of HKs.out.may HR1s.out HR2s.out).gr g)
              rw [f1, f2] at this
              unfold accC at this
              rw [v1, v2, v3, v4] at this
              exact this
            have HNT : Hid (∀ w', Gr ws w' → Calls Try.prog 12 #[.agg #[.slice b1 A2.length d1, .slice b2 M2.length d2], .string F[k].1, .string ⟨#[]⟩] w' fun e w2' => e = .returned (.tuple #[.int .i64 (Led.sm (Led.gNF F[k].1) M2), .int .i64 (Led.sm (Led.gNK F[k].1) M2), .int .i64 0]) ∧ Gr w' w2') := fun w' g => by
              have := net7_any A2 M2 F[k].1 ⟨#[]⟩ b1 d1 b2 d2 w' ((led_of HKs.out.may HR1s.out HR2s.out).gr g)
              rw [f7, f8, f9] at this
              exact this
            clear f1 f2 f3 f7 f8 f9 v1 v2 v3 v4 hxA
            generalize F[k].1 = s at *
            generalize F[k].2 = n at *
            generalize Led.sm (Led.gNF s) M2 = SF at *
            generalize Led.sm (Led.gNK s) M2 = SK at *
            have hwx : IntKind.i64.wrap (n + SF) = x.a := by rw [IntKind.wrap_i64, f4]; omega
            rw [f5] at HFD
            generalize x.a = xa at *
            generalize x.s = xs at *
            clear f4 f5 f6
            have hG0 := HGs.out.trans HGR.out
            have d0 := hG0.keep e0
            have d1' := hG0.keep e1
            have hbw : bf < wo.heap.size := Nat.lt_of_lt_of_le hbf hG0.size
            clear hG0
            obtain ⟨x0, x1, _, _, xl⟩ := HBR.out
            go_upto_region 25 with fail
            go_cut [15, 16] (fun sp se wx => ∃ Q : Nat, sp = .pointer (some ⟨Q, 0, none⟩) ∧ se = .bool true ∧ AccAt wx Q (.string xs) (.int .i64 xa) (.int .i64 0) (.int .i64 0) (.int .i64 SK) (.int .i64 0) (.int .i64 0) ∧ Gr wo wx)
            case first =>
              refine wp_region_held_drew (S := (fun w' => Gr wo w' ∧ w'.cell? ⟨w2.heap.size, 0, none⟩ = some (.slice b1 A2.length d1) ∧ w'.cell? ⟨w2.heap.size, 1, none⟩ = some (.slice b2 M2.length d2) ∧ w'.cell? ⟨bf, of + k * 7, none⟩ = some (.string s))) (by kernel_rfl) (by exact hold3 (by (with_reducible repeat' (first | exact Gr.refl _ | refine Gr.set ?_ _ ?_ _ | refine Gr.alloc ?_ | refine Gr.drew ?_ | refine Gr.trans ?_ (by assumption))) <;> (first | (simp; done) | (simp; omega) | omega)) x0 x1 d0) (fun hHeld => ?_)
              refine ty 0 89 hHeld ?_
              refine ty 1 90 hHeld ?_
              refine ty 2 91 hHeld ?_
              refine ty 3 92 hHeld ?_
              refine ty 4 93 hHeld ?_
              refine ty 5 94 hHeld ?_
              refine wpAnyH_ready (rs := [6, 10]) (by kernel_rfl) (by simp) (AllReadyH.cons rfl (fun K hK => ?_) (AllReadyH.cons rfl (fun K hK => ?_) AllReadyH.nil))
              · skip
                go_simp
                (go_at_call 10; refine (HFD.out _ (HGR.out.trans (by (with_reducible repeat' (first | exact Gr.refl _ | refine Gr.set ?_ _ ?_ _ | refine Gr.alloc ?_ | refine Gr.drew ?_ | refine Gr.trans ?_ (by assumption))) <;> (first | (simp; done) | (simp; omega) | omega)))).mono ?_; rintro e wn ⟨rfl, hgn⟩)
                (try go_wp2_with fail)
                refine hK.out _ _ (by exact hold3 (by (with_reducible repeat' (first | exact Gr.refl _ | refine Gr.set ?_ _ ?_ _ | refine Gr.alloc ?_ | refine Gr.drew ?_ | refine Gr.trans ?_ (by assumption))) <;> (first | (simp; done) | (simp; omega) | omega)) x0 x1 d0) (fun hHeldN => ?_)
                clear hHeld hK K
                have hHeld := hHeldN
                clear hHeldN
                refine ty 7 88 hHeld ?_
                refine ty 8 96 hHeld ?_
                refine ty 9 97 hHeld ?_
                refine wpAnyH_ready (rs := [10]) (by kernel_rfl) (by simp) (AllReadyH.cons rfl (fun K hK => ?_) AllReadyH.nil)
                go_simp
                refine hK.out _ _ (by exact hold3 (by (with_reducible repeat' (first | exact Gr.refl _ | refine Gr.set ?_ _ ?_ _ | refine Gr.alloc ?_ | refine Gr.drew ?_ | refine Gr.trans ?_ (by assumption))) <;> (first | (simp; done) | (simp; omega) | omega)) x0 x1 d0) (fun hHeldN => ?_)
                clear hHeld hK K
                have hHeld := hHeldN
                clear hHeldN
                refine wpAnyH_ready (rs := [11]) (by kernel_rfl) (by simp) (AllReadyH.cons rfl (fun K hK => ?_) AllReadyH.nil)
                go_simp
                refine hK.out _ _ (by exact hold3 (by (with_reducible repeat' (first | exact Gr.refl _ | refine Gr.set ?_ _ ?_ _ | refine Gr.alloc ?_ | refine Gr.drew ?_ | refine Gr.trans ?_ (by assumption))) <;> (first | (simp; done) | (simp; omega) | omega)) x0 x1 d0) (fun hHeldN => ?_)
                clear hHeld hK K
                have hHeld := hHeldN
                clear hHeldN
                refine ty 12 16 hHeld ?_
                refine wpAnyH_done (by kernel_rfl) ?_ _
                go_wp2_with fail
                go_meet
                exact ⟨_, rfl, rfl, AccAt.new wn _ _ _ _ _ _ _ _ _ rfl, (by (with_reducible repeat' (first | exact Gr.refl _ | refine Gr.set ?_ _ ?_ _ | refine Gr.alloc ?_ | refine Gr.drew ?_ | refine Gr.trans ?_ (by assumption))) <;> (first | (simp; done) | (simp; omega) | omega))⟩
              · skip
                go_simp
                refine hK.out _ _ (by exact hold3 (by (with_reducible repeat' (first | exact Gr.refl _ | refine Gr.set ?_ _ ?_ _ | refine Gr.alloc ?_ | refine Gr.drew ?_ | refine Gr.trans ?_ (by assumption))) <;> (first | (simp; done) | (simp; omega) | omega)) x0 x1 d0) (fun hHeldN => ?_)
                clear hHeld hK K
                have hHeld := hHeldN
                clear hHeldN
                refine wpAnyH_ready (rs := [6]) (by kernel_rfl) (by simp) (AllReadyH.cons rfl (fun K hK => ?_) AllReadyH.nil)
                go_simp
                (go_at_call 10; refine (HFD.out _ (HGR.out.trans (by (with_reducible repeat' (first | exact Gr.refl _ | refine Gr.set ?_ _ ?_ _ | refine Gr.alloc ?_ | refine Gr.drew ?_ | refine Gr.trans ?_ (by assumption))) <;> (first | (simp; done) | (simp; omega) | omega)))).mono ?_; rintro e wn ⟨rfl, hgn⟩; have hzn := hgn.size; simp at hzn; have hbz := ((AccAt.new wo _ _ _ _ _ _ _ _ _ rfl).gr (Gr.refl _).drew).gr hgn; have HBZ : Hid (AccAt wn wo.heap.size _ _ _ _ _ _ _) := hbz; obtain ⟨z0, z1, z2, z3, z4, z5, z6⟩ := hbz.cells; obtain ⟨y0, y1, y2, y3, y4, y5, y6⟩ := hbz.frozens; have zl := hbz.lt; clear hbz)
                (try go_wp2_with fail)
                refine hK.out _ _ (by exact hold3 (by (with_reducible repeat' (first | exact Gr.refl _ | refine Gr.set ?_ _ ?_ _ | refine Gr.alloc ?_ | refine Gr.drew ?_ | refine Gr.trans ?_ (by assumption))) <;> (first | (simp; done) | (simp; omega) | omega)) x0 x1 d0) (fun hHeldN => ?_)
                clear hHeld hK K
                have hHeld := hHeldN
                clear hHeldN
                refine ty 7 88 hHeld ?_
                refine ty 8 96 hHeld ?_
                refine ty 9 97 hHeld ?_
                refine wpAnyH_ready (rs := [11]) (by kernel_rfl) (by simp) (AllReadyH.cons rfl (fun K hK => ?_) AllReadyH.nil)
                go_simp
                refine hK.out _ _ (by exact hold3 (by (with_reducible repeat' (first | exact Gr.refl _ | refine Gr.set ?_ _ ?_ _ | refine Gr.alloc ?_ | refine Gr.drew ?_ | refine Gr.trans ?_ (by assumption))) <;> (first | (simp; done) | (simp; omega) | omega)) x0 x1 d0) (fun hHeldN => ?_)
                clear hHeld hK K
                have hHeld := hHeldN
                clear hHeldN
                refine ty 12 16 hHeld ?_
                refine wpAnyH_done (by kernel_rfl) ?_ _
                go_wp2_with fail
                go_meet
                exact ⟨_, rfl, rfl, HBZ.out.set7 _ _ _ _ _ _ _, (by (with_reducible repeat' (first | exact Gr.refl _ | refine Gr.set ?_ _ ?_ _ | refine Gr.alloc ?_ | refine Gr.drew ?_ | refine Gr.trans ?_ (by assumption))) <;> (first | (simp; done) | (simp; omega) | omega))⟩
            case rest =>
            obtain ⟨wp, rfl⟩ : ∃ x, x = wc := ⟨_, rfl⟩
            obtain ⟨Q, rfl, rfl, hQA, hgc⟩ := hcut
            have HQA : Hid (AccAt wp Q (.string xs) (.int .i64 xa) (.int .i64 0) (.int .i64 0) (.int .i64 SK) (.int .i64 0) (.int .i64 0)) := hQA
            have HGP : Hid (Gr ws wp) := HGR.out.trans hgc
            obtain ⟨x0, x1, _, _, xl⟩ := HBR.out.gr hgc
            have d0 := hgc.keep d0
            have d1' := hgc.keep d1'
            have hbw : bf < wp.heap.size := Nat.lt_of_lt_of_le hbw hgc.size
            clear hQA hgc HFD HBR
            go_upto_region 26 with fail
            refine wp_region_held_drew (S := (fun w' => Gr wp w' ∧ w'.cell? ⟨w2.heap.size, 0, none⟩ = some (.slice b1 A2.length d1) ∧ w'.cell? ⟨w2.heap.size, 1, none⟩ = some (.slice b2 M2.length d2) ∧ w'.cell? ⟨bf, of + k * 7, none⟩ = some (.string s))) (by kernel_rfl) (by exact hold3 (by (with_reducible repeat' (first | exact Gr.refl _ | refine Gr.set ?_ _ ?_ _ | refine Gr.alloc ?_ | refine Gr.drew ?_ | refine Gr.trans ?_ (by assumption))) <;> (first | (simp; done) | (simp; omega) | omega)) x0 x1 d0) (fun hHeld => ?_)
            refine ty 0 99 hHeld ?_
            refine ty 1 100 hHeld ?_
            refine ty 2 101 hHeld ?_
            refine ty 3 102 hHeld ?_
            refine ty 4 103 hHeld ?_
            refine ty 5 104 hHeld ?_
            refine wpAnyH_ready (rs := [6]) (by kernel_rfl) (by simp) (AllReadyH.cons rfl (fun K hK => ?_) AllReadyH.nil)
            go_simp
            (go_at_call 12; refine (HNT.out _ (HGP.out.trans (by (with_reducible repeat' (first | exact Gr.refl _ | refine Gr.set ?_ _ ?_ _ | refine Gr.alloc ?_ | refine Gr.drew ?_ | refine Gr.trans ?_ (by assumption))) <;> (first | (simp; done) | (simp; omega) | omega)))).mono ?_; rintro e wn ⟨rfl, hgn⟩)
            (try go_wp2_with fail)
            refine hK.out _ _ (by exact hold3 (by (with_reducible repeat' (first | exact Gr.refl _ | refine Gr.set ?_ _ ?_ _ | refine Gr.alloc ?_ | refine Gr.drew ?_ | refine Gr.trans ?_ (by assumption))) <;> (first | (simp; done) | (simp; omega) | omega)) x0 x1 d0) (fun hHeldN => ?_)
            clear hHeld hK K
            have hHeld := hHeldN
            clear hHeldN
            refine ty 7 98 hHeld ?_
            refine ty 8 106 hHeld ?_
            refine ty 9 107 hHeld ?_
            refine ty 10 108 hHeld ?_
            refine ty 11 17 hHeld ?_
            refine ty 12 18 hHeld ?_
            refine ty 13 19 hHeld ?_
            refine wpAnyH_done (by kernel_rfl) ?_ _
            have gn : Gr wp wn := (Gr.refl _).drew.trans hgn
            obtain ⟨r0, r1, r2, r3, r4, r5, r6⟩ := (HQA.out.gr gn).cells
            have t1 := gn.keep d1'
            have hl1 : Q < wn.heap.size := (HQA.out.gr gn).lt
            have hl3 : bf < wn.heap.size := Nat.lt_of_lt_of_le hbw gn.size
            have HGN : Hid (Gr ws wn) := HGP.out.trans gn
            clear gn hgn d0 d1' x0 x1 xl hbw
            go_wp2
            go_quiet (fail)
            go_wp2
            go_roundw
            case rel => exact ⟨k + 1, by omega, by go_num, HGN.out.trans ((Gr.refl _).drewN _)⟩
            case measure => simp [intOf]; omega
          · obtain rfl : k = F.length := by omega
            go_wp2_with fail
            refine (HA.out _).mono ?_
            rintro e w9 ⟨rfl, hg9⟩
            go_wp2
            go_ret
            exact ⟨rfl, ((HG2.out.trans HGs.out).trans HGR.out).trans hg9⟩
set_option maxRecDepth 100000 in
theorem ledgerBack_lifted (os : Os) (started : os.Started) (H : Type) (enc : TypeId × Value → H) :
    ReturnsInHanded {} Try.checked os 7 .any (Rows.ledgerBackSpec.pre6 enc Try.prog Try.f7 Rows.ledgerBackRow.domain false) (Rows.ledgerBackSpec.post enc Try.prog Try.f7 false true false false) := by
  refine returnsInHanded_of_change (C := Try.checked) own2 started (by kernel_rfl) Try.func7
    (ChangeSpec.witness6 (enc := enc) (C := Try.checked) false ⟨#[], #[.slice none 0 0], []⟩ 8 (by kernel_rfl) (by kernel_rfl) (by kernel_rfl) (by kernel_rfl)) ?_
  intro W base args ds gs before hval0 hW hcnd _
  have hval : ∀ (j : Nat) t v, Try.f7.params[j]? = some t → args[j]? = some v → Value.okWide Try.prog W .any base t v := hval0
  have hW' := hW
  obtain ⟨p, q, hA0, hV, rfl, hfz, hnd⟩ := hW
  have hA : DataW.TrodAll enc Try.prog W 0 (fun _ => true) true Try.f7.params.toList args.toList ds p := hA0
  rw [Try.params7] at hA hval
  obtain ⟨v0, d0, rfl, rfl, q0⟩ := trodAll_one hA
  obtain ⟨rfl, rfl⟩ := trodVars_none hV
  have k0 := q0
  have lt0 : ∀ x ∈ p, x.block < W.heap.size := by obtain ⟨m, hm⟩ := k0; exact DataW.trod_lt m _ _ _ hm
  obtain ⟨ad0, cap0, T0, rfl, hT0, hn0, hr0⟩ := open_calls (hval 0 57 v0 rfl rfl) q0
  clear hA0 hval0
  refine (ledgerBack_walk T0 ad0 cap0 W hT0 hn0 hr0).mono fun e W' ⟨he, hg⟩ => ?_
  subst he
  exact ⟨_, rfl, _, _, _, [], _, [], hW', trodAll_mk1 (shut_bool Try.underlying4 _), trodAll_mk1 (Below.trod laidOut2 (by kernel_rfl) (of_decide_eq_true (by kernel_rfl)) k0 hg.below lt0), rfl, hg.below.frame _, fun h => by cases h⟩
theorem ledgerBack_holds : Rows.LedgerBackSaid :=
  OpenClaim.holds_of_wide 7 Try.f7 rfl rfl rfl rfl rfl rfl rfl ⟨rfl, rfl, rfl, rfl, rfl⟩ rfl rfl rfl rfl rfl (by kernel_rfl) Try.func7 (by kernel_rfl)
    (of_decide_eq_true (by kernel_rfl)) (by unfold Func.isWrapper; first | (rw [if_pos (by decide +kernel)]; kernel_rfl) | (rw [if_neg (by decide +kernel)]; exact ⟨rfl, rfl⟩))
    (fun os started H enc _ => ledgerBack_lifted os started H enc)
end Go.Proofs.Ytgidkmipecfjhaa
