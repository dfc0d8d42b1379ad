/- Parts of these proofs, laid together. -/
import Derived.Test.YtojmhhmpmpbpfaaGreatDoorGBA
import Derived.Test.YtojmhhmpmpbpfaaGreatDoorGD
import Derived.Test.YtojmhhmpmpbpfaaGreatDoorGA
import Derived.Test.YtojmhhmpmpbpfaaGreatDoorGB
import Derived.Test.YtojmhhmpmpbpfaaGreatDoorGR
import Derived.Test.YtojmhhmpmpbpfaaGreatDoorGN
import Derived.BigQuiet
import Derived.Lib.AppendZeros
import Derived.Laws.AppendOwnNone
namespace Go.Proofs.YtojmhhmpmpbpfaaGreatDoor
open Go.RowKit

/- what Cut answers from a place on -/
theorem cut_go (s : List UInt8) (v : Int) (a : Nat) (l : List (List UInt8)) (h : Sl.cutE s v = (l ++ (Sl.frames s a v).map (·.1), Sl.lastEnd a (Sl.frames s a v), if Sl.lastEnd a (Sl.frames s a v) = s.length then 0 else (Sl.openE s (Sl.lastEnd a (Sl.frames s a v)) v).2.2)) (ha : a < s.length) {b : List UInt8} {q : Nat} (ho : Sl.openE s a v = (b, q, 0)) :
    Sl.cutE s v = (l ++ [b] ++ (Sl.frames s q v).map (·.1), Sl.lastEnd q (Sl.frames s q v), if Sl.lastEnd q (Sl.frames s q v) = s.length then 0 else (Sl.openE s (Sl.lastEnd q (Sl.frames s q v)) v).2.2) := by
  rw [Sl.frames_next s a v b q ha ho, Sl.lastEnd_cons] at h
  rw [h]
  simp
set_option maxHeartbeats 2000000 in
set_option maxRecDepth 100000 in
theorem refCut_any (s : ByteArray) (w : World) (hs : s.size ≤ 1000000) :
    Calls Tryz.prog 63 #[.string s, .int .i64 3] w fun e w' => ∃ ad cap, e = .returned (.tuple #[.slice ad (Sl.cutE s.data.toList 3).1.length cap, .int .i64 (Sl.cutE s.data.toList 3).2.1, .int .i64 (Sl.cutE s.data.toList 3).2.2]) ∧
      StrsAt w' ad ((Sl.cutE s.data.toList 3).1.map mkT) ∧ (∀ p, ad = some p → w.heap.size ≤ p.block) ∧ Gr w w' := by
  obtain ⟨i0, hi0, hz0, hz1, hz2⟩ := info_parts info9
  have hsz : s.data.toList.length = s.size := by simp
  go_enter Tryz.func63, Tryz.ntmps63
  go_wp2
  go_loopw [7, 8] (fun v a wr => ∃ (p : Nat) (l : List (List UInt8)), p ≤ s.size ∧ l.length ≤ p ∧ a = .int .i64 (p : Int) ∧ wr.ownsRow w.heap.size 9 1 v l.length (strV l) ∧
      Sl.cutE s.data.toList 3 = (l ++ (Sl.frames s.data.toList p 3).map (·.1), Sl.lastEnd p (Sl.frames s.data.toList p 3), if Sl.lastEnd p (Sl.frames s.data.toList p 3) = s.data.toList.length then 0 else (Sl.openE s.data.toList (Sl.lastEnd p (Sl.frames s.data.toList p 3)) 3).2.2) ∧ Gr w wr) (fun _ a _ => s.size - (intOf a).toNat)
  case atStart => exact ⟨0, [], Nat.zero_le _, Nat.le_refl _, rfl, World.ownsRow_nil _ _ _ _, rfl, Gr.refl _⟩
  case round =>
    rename_i v
    obtain ⟨p, l, hp, hl, rfl, hown, hcu, hg⟩ := hrel
    have HC := Lib.hid hcu
    have HG := Lib.hid hg
    have hgs := hg.size
    by_cases hlt : p < s.size
    · have HO : Hid (∀ w' : World, Calls Tryz.prog 62 #[.string s, .int .i64 (p : Int), .int .i64 3] w' fun e w2 => e = .returned (.tuple #[.string ⟨(Sl.openE s.data.toList p 3).1.toArray⟩, .int .i64 (Sl.openE s.data.toList p 3).2.1, .int .i64 (Sl.openE s.data.toList p 3).2.2]) ∧ Gr w' w2) := fun w' => refOpen_any s p 3 w' (by omega)
      obtain ⟨⟨b, q, er⟩, ho⟩ : ∃ r, Sl.openE s.data.toList p 3 = r := ⟨_, rfl⟩
      rw [ho] at HO
      simp only at HO
      have hpi : (p : Int) < (s.size : Int) := by omega
      by_cases he : er = 0
      · subst he
        have had := Sl.open_adv _ _ _ _ _ ho
        have HC2 := Lib.hid (cut_go s.data.toList 3 p l HC.out (by omega) ho)
        have hq1 : p < q := by have := had.2.1; simpa using this
        have hq2 : q ≤ s.size := by have := had.2.2.1; omega
        have hm1 : l.length + 1 ≤ maxLen := by unfold maxLen; omega
        clear had ho hcu HC hg
        go_wp2_with fail
        refine (HO.out _).mono ?_
        rintro e w2 ⟨rfl, hg2⟩
        have hown2 := hown.kept hg2.grownBy (own_or _)
        have HG2 := Lib.hid (HG.out.trans hg2)
        have hgs2 := HG2.out.size
        go_wp2_with (first
          | (at_builtin; refine wpList_append_own _ rfl _ _ 34 rfl w.heap.size 9 i0 (.string ⟨#[]⟩) 1 16 Tryz.underlying34 hi0 hz0 hz1 hz2 rfl (by decide) _ _ _ rfl (hown2.alloc _) ⟨w2.heap.size, 0, none⟩ 1 1 [.string ⟨b.toArray⟩] rfl rfl (cell_one_new _ _ _) (by intro u hu; simp at hu; subst hu; rfl) hm1 (by omega) (by simp; omega) ?_)
          | fail)
        intro v' w1 hown' hgrow _
        have HG1 : Hid (Gr w w1) := HG2.out.alloc.grown hgrow (fun k hk => (hown2.lt k hk).1)
        have HO1 : Hid (w1.ownsRow w.heap.size 9 1 v' (l ++ [b]).length (strV (l ++ [b]))) := by rw [strV_snoc, List.length_append]; exact hown'
        clear hown hown2 hown' hgrow hg2
        go_wp2
        go_roundw
        case rel => exact ⟨q, l ++ [b], hq2, by rw [List.length_append, List.length_singleton]; omega, rfl, HO1.out, HC2.out, HG1.out⟩
        case measure => simp [intOf]; omega
      · have hb := Sl.frames_bad s.data.toList p 3 (by rw [ho]; exact he)
        have HE : Hid (Sl.cutE s.data.toList 3 = (l, p, er)) := by
          show _ = _
          rw [HC.out, hb, show Sl.lastEnd p [] = p from rfl, if_neg (by omega), ho, List.map_nil, List.append_nil]
        obtain ⟨ad, cap, rfl, hst⟩ := own_strs hown
        have hfrs : ∀ p, ad = some p → w.heap.size ≤ p.block := fun p e => by subst e; exact (hown.lt p.block rfl).1
        have HST := Lib.hid hst
        have hne : ((er : Int) != 0) = true := by rw [bne_iff_ne]; omega
        clear hown hcu HC hg hb ho hst
        go_wp2_with fail
        refine (HO.out _).mono ?_
        rintro e w2 ⟨rfl, hg2⟩
        go_wp2
        go_ret3
        rw [HE.out]
        exact ⟨ad, cap, rfl, HST.out.gr hg2, hfrs, HG.out.trans hg2⟩
    · have hps : p = s.size := by omega
      have hb := Sl.frames_end s.data.toList p 3 (by omega)
      have HE : Hid (Sl.cutE s.data.toList 3 = (l, p, 0)) := by
        show _ = _
        rw [HC.out, hb, show Sl.lastEnd p [] = p from rfl, if_pos (by omega), List.map_nil, List.append_nil]
      obtain ⟨ad, cap, rfl, hst⟩ := own_strs hown
      have hfrs : ∀ p, ad = some p → w.heap.size ≤ p.block := fun p e => by subst e; exact (hown.lt p.block rfl).1
      have HST := Lib.hid hst
      have hge : ¬ ((p : Int) < (s.size : Int)) := by omega
      clear hown hcu HC hg hb hst hps
      go_wp2
      go_ret3
      rw [HE.out]
      exact ⟨ad, ⟨cap, rfl⟩, HST.out, hfrs, HG.out⟩
end Go.Proofs.YtojmhhmpmpbpfaaGreatDoor
namespace Go.Proofs.YtojmhhmpmpbpfaaGreatDoor
open Go.RowKit Go.Maps
open Dk (Fl Fo St Ok Up zf emp used cutF fallA kf)
variable {X : Nat → Prop} {w w' : World} {r : Nat}

/- the lowest number that the next file may have -/
def lowN (l : List Fl) (k : Nat) : Int := if k = 0 then 0 else (l.getD (k - 1) (zf 0)).n + 1
theorem low_succ {l : List Fl} {k : Nat} (h : k < l.length) : lowN l (k + 1) = l[k].n + 1 := by
  unfold lowN
  rw [if_neg (by omega), Nat.add_sub_cancel, List.getD_eq_getElem?_getD, List.getElem?_eq_getElem h]
  rfl
theorem low_pos {l : List Fl} {j : Nat} (h : j < l.length) : lowN l (j + 1) = l[j].n + 1 := low_succ h
theorem used_take {l : List Fl} {k : Nat} (h : k < l.length) : used (l.take (k + 1)) = used (l.take k) + l[k].d.size := by
  rw [List.take_succ_eq_append_getElem h, used_app]; simp [used]
theorem okF_false1 {lo room : Int} {f : Fl} (h : ¬ (lo ≤ f.n ∧ f.n ≤ 1000000)) : okF lo room f = false := by unfold okF; rw [decide_eq_false h]; simp
theorem okF_false2 {lo room : Int} {f : Fl} (h : ¬ (1 ≤ (f.d.size : Int) ∧ (f.d.size : Int) ≤ room)) : okF lo room f = false := by unfold okF; rw [decide_eq_false h]; simp
theorem okF_false3 {lo room : Int} {f : Fl} (h : ¬ (0 ≤ f.y ∧ f.y ≤ (f.d.size : Int))) : okF lo room f = false := by unfold okF; rw [decide_eq_false h]; simp
theorem okF_true {lo room : Int} {f : Fl} (h1 : lo ≤ f.n ∧ f.n ≤ 1000000) (h2 : 1 ≤ (f.d.size : Int) ∧ (f.d.size : Int) ≤ room) (h3 : 0 ≤ f.y ∧ f.y ≤ (f.d.size : Int)) : okF lo room f = true := by
  unfold okF; rw [decide_eq_true h1, decide_eq_true h2, decide_eq_true h3]; rfl
def RlR (X : Nat → Prop) (w w' : World) (room : Int) (l : List Fl) (e : Ending) : Prop :=
  if mayL room l then ∃ r, e = .returned (.tuple #[ptr r, .int .i64 0]) ∧ Rf X w' r (Dk.new room l) ∧ w.heap.size ≤ r ∧ Gr w w' else e = .returned (.tuple #[nilP, .int .i64 2]) ∧ Gr w w'
set_option maxHeartbeats 4000000 in
set_option maxRecDepth 100000 in
theorem rload_l1 (room : Int) (l : List Fl) (ad : Option Addr) (cap : Nat) (hx : ∀ j, X j → j < w.heap.size) (h : ¬ (0 ≤ room ∧ room ≤ 200000)) :
    Calls Tryz.prog 7 #[.int .i64 room, .slice ad l.length cap] w fun e w' => RlR X w w' room l e := by
  have HN := Lib.hid (rnew_any X room w hx)
  simp only [if_neg h] at HN
  have hm : mayL room l = false := by unfold mayL; rw [decide_eq_false h]; simp
  unfold RlR
  rw [hm]
  clear hx
  go_enter Tryz.func7, Tryz.ntmps7
  go_wp2_with (go_at_call 28; refine HN.out.mono ?_; rintro e w' ⟨rfl, hw⟩; obtain rfl := hw.symm; clear hw)
  go_ret2
  exact ⟨rfl, Gr.refl w⟩
set_option maxHeartbeats 4000000 in
set_option maxRecDepth 100000 in
theorem rload_l2 (room : Int) (l : List Fl) (ad : Option Addr) (cap : Nat) (hx : ∀ j, X j → j < w.heap.size) (h : 0 ≤ room ∧ room ≤ 200000) (h8 : ¬ l.length ≤ 8) :
    Calls Tryz.prog 7 #[.int .i64 room, .slice ad l.length cap] w fun e w' => RlR X w w' room l e := by
  have HN := Lib.hid (rnew_any X room w hx)
  simp only [if_pos h] at HN
  have hm : mayL room l = false := by unfold mayL; rw [decide_eq_false h8]; simp
  unfold RlR
  rw [hm]
  have d8 : decide ((8 : Int) < (l.length : Int)) = true := decide_eq_true (by omega)
  clear hx
  go_enter Tryz.func7, Tryz.ntmps7
  go_wp2_with fail
  refine HN.out.mono ?_
  rintro e w1 ⟨rfl, hr, hg⟩
  have HG := Lib.hid hg
  clear hr hg HN
  go_wp2
  go_ret2
  exact ⟨rfl, HG.out⟩
set_option maxHeartbeats 16000000 in
set_option maxRecDepth 100000 in
theorem rload_main (room : Int) (l : List Fl) (ad : Option Addr) (cap : Nat) (hx : ∀ j, X j → j < w.heap.size) (hL : RowAt flf w ad l) (hcap : ad = none → cap = 0) (hsum : used l ≤ 9223372036854775807) (h : 0 ≤ room ∧ room ≤ 200000) (h8 : l.length ≤ 8) :
    Calls Tryz.prog 7 #[.int .i64 room, .slice ad l.length cap] w fun e w' => RlR X w w' room l e := by
  have HN := Lib.hid (rnew_any X room w hx)
  simp only [if_pos h] at HN
  have HMy : Hid (mayL room l = mayA 0 room l) := by show _ = _; unfold mayL; rw [decide_eq_true h, decide_eq_true h8]; simp
  have d8 : decide ((8 : Int) < (l.length : Int)) = false := decide_eq_false (by omega)
  have HL := Lib.hid hL
  have HCp := Lib.hid hcap
  have HXl := Lib.hid hx
  obtain ⟨i0, hi0, hz0, hz1, hz2⟩ := info_parts infoF
  clear hx hL hcap
  go_enter Tryz.func7, Tryz.ntmps7
  go_wp2_with fail
  refine HN.out.mono ?_
  rintro e w1 ⟨rfl, hr, hg⟩
  have HR := Lib.hid hr
  have HG := Lib.hid hg
  have hr4 := hr.fl
  have hrf := hr.fz 4 (by omega)
  have hrl := hr.lt
  clear hr hg HN
  generalize hr0 : w.heap.size = r at *
  go_wp2
  go_loopw [9, 8] (fun i c wr => ∃ k : Nat, k ≤ l.length ∧ i = .int .i64 (k : Int) ∧ c = .int .i64 (used (l.take k) : Int) ∧ (used (l.take k) : Int) ≤ room ∧ 0 ≤ lowN l k ∧ lowN l k ≤ 1000001 ∧ mayA 0 room l = mayA (lowN l k) (room - (used (l.take k) : Int)) (l.drop k) ∧ Gr w1 wr) (fun i _ _ => l.length - (intOf i).toNat)
  case atStart => exact ⟨0, Nat.zero_le _, rfl, rfl, by simpa [used] using h.1, by simp [lowN], by simp [lowN], by simp [used, lowN], Gr.refl w1⟩
  case round =>
    obtain ⟨k, hk, rfl, rfl, hus, hl0, hl1, hm, hg⟩ := hrel
    have HGr := Lib.hid hg
    by_cases hlt : k < l.length
    · obtain ⟨x, off, hade, hxb, c0, c1, c2⟩ := fl_at HL.out k hlt
      have hgw := HG.out.trans hg
      have c0 := hgw.keep c0
      have c1 := hgw.keep c1
      have c2 := hgw.keep c2
      have hds : used (l.take k) + l[k].d.size ≤ 9223372036854775807 := by
        rw [← used_take hlt]
        have h5 : used (l.take (k + 1)) + used (l.drop (k + 1)) = used l := by rw [← used_app, List.take_append_drop]
        omega
      rw [mayA_drop hlt] at hm
      have HM := Lib.hid hm
      have HLs := Lib.hid (low_succ hlt)
      have HUt := Lib.hid (used_take hlt)
      have HPv : Hid (∀ j, k = j + 1 → ∃ pn, lowN l k = pn + 1 ∧ wr.cell? ⟨x, off + j * 3, none⟩ = some (.int .i64 pn)) := by
        intro j hj
        subst hj
        obtain ⟨x', off', hade', _, d0, _, _⟩ := fl_at HL.out j (by omega)
        rw [hade] at hade'
        cases hade'
        exact ⟨l[j].n, low_pos (by omega), hgw.keep d0⟩
      subst hade
      clear hg hm hgw
      generalize hlo : lowN l k = lo at *
      generalize used (l.take k) = us at *
      generalize l[k] = f at *
      obtain ⟨fn, fd, fy⟩ := f
      simp only at *
      by_cases p1 : fn < 0
      · skip
        have HF : Hid (mayL room l = false) := by
          have h9 := HM.out
          rw [okF_false1 (fun e => by have := e.1; simp only at this; omega)] at h9
          exact HMy.out.trans h9
        clear HM
        go_wp2
        go_ret2
        unfold RlR
        rw [HF.out]
        exact ⟨rfl, HG.out.trans (HGr.out.alloc)⟩
      have q1 : decide (fn < 0) = false := decide_eq_false p1
      by_cases p2 : 1000000 < fn
      · skip
        have HF : Hid (mayL room l = false) := by
          have h9 := HM.out
          rw [okF_false1 (fun e => by have := e.2; simp only at this; omega)] at h9
          exact HMy.out.trans h9
        clear HM
        go_wp2
        go_ret2
        unfold RlR
        rw [HF.out]
        exact ⟨rfl, HG.out.trans (HGr.out.alloc)⟩
      have q2 : decide (1000000 < fn) = false := decide_eq_false p2
      by_cases p3 : (fd.size : Int) = 0
      · have q3 : ((fd.size : Int) == 0) = true := by rw [p3]; rfl
        have HF : Hid (mayL room l = false) := by
          have h9 := HM.out
          rw [okF_false2 (fun e => by have := e.1; simp only at this; omega)] at h9
          exact HMy.out.trans h9
        clear HM
        go_wp2
        go_ret2
        unfold RlR
        rw [HF.out]
        exact ⟨rfl, HG.out.trans (HGr.out.alloc)⟩
      have q3 : ((fd.size : Int) == 0) = false := beq_eq_false_iff_ne.2 p3
      by_cases p4 : fy < 0
      · skip
        have HF : Hid (mayL room l = false) := by
          have h9 := HM.out
          rw [okF_false3 (fun e => by have := e.1; simp only at this; omega)] at h9
          exact HMy.out.trans h9
        clear HM
        go_wp2
        go_ret2
        unfold RlR
        rw [HF.out]
        exact ⟨rfl, HG.out.trans (HGr.out.alloc)⟩
      have q4 : decide (fy < 0) = false := decide_eq_false p4
      by_cases p5 : (fd.size : Int) < fy
      · have q5 : decide ((fd.size : Int) < fy) = true := decide_eq_true p5
        have HF : Hid (mayL room l = false) := by
          have h9 := HM.out
          rw [okF_false3 (fun e => by have := e.2; simp only at this; omega)] at h9
          exact HMy.out.trans h9
        clear HM
        go_wp2
        go_ret2
        unfold RlR
        rw [HF.out]
        exact ⟨rfl, HG.out.trans (HGr.out.alloc)⟩
      have q5 : decide ((fd.size : Int) < fy) = false := decide_eq_false p5
      rcases Nat.eq_zero_or_pos k with hk0 | hk0
      · subst hk0
        have hlo0 : lo = 0 := by rw [← hlo]; rfl
        simp only [Nat.zero_mul, Nat.add_zero] at c0 c1 c2
        by_cases p7 : room < (us : Int) + (fd.size : Int)
        · have q7 : decide (room < (us : Int) + (fd.size : Int)) = true := decide_eq_true p7
          have HF : Hid (mayL room l = false) := by
            have h9 := HM.out
            rw [okF_false2 (fun e => by have := e.2; simp only at this; omega)] at h9
            exact HMy.out.trans h9
          clear HM
          go_upto_region 11 with fail
          go_quiet (fail)
          go_wp2
          go_ret2
          unfold RlR
          rw [HF.out]
          exact ⟨rfl, HG.out.trans (HGr.out.alloc.dn _)⟩
        · have q7 : decide (room < (us : Int) + (fd.size : Int)) = false := decide_eq_false p7
          have HM2 : Hid (mayA 0 room l = mayA (fn + 1) (room - ((us + fd.size : Nat) : Int)) (l.drop (0 + 1))) := by
            have h9 := HM.out
            rw [okF_true ⟨by simp only; omega, by simp only; omega⟩ ⟨by simp only; omega, by simp only; omega⟩ ⟨by simp only; omega, by simp only; omega⟩, Bool.true_and] at h9
            rw [show room - ((us + fd.size : Nat) : Int) = room - (us : Int) - (fd.size : Int) by omega]
            exact h9
          clear HM
          go_upto_region 11 with fail
          go_quiet (fail)
          go_wp2
          go_roundw
          case rel => exact ⟨0 + 1, by omega, by simp, by rw [HUt.out]; simp, by rw [HUt.out]; simp; omega, by rw [HLs.out]; omega, by rw [HLs.out]; omega, by rw [HLs.out, HUt.out]; exact HM2.out, HGr.out.alloc.dn _⟩
          case measure => simp [intOf]; omega
      · obtain ⟨j, rfl⟩ : ∃ j, k = j + 1 := ⟨k - 1, by omega⟩
        obtain ⟨pn, hpn, e0⟩ := HPv.out j rfl
        have hj1 : decide ((0 : Int) < ((j + 1 : Nat) : Int)) = true := decide_eq_true (by omega)
        have hj2 : ((j + 1 : Nat) : Int) - 1 = (j : Int) := by omega
        have e0' := ((Gr.refl wr).alloc (o := .cells #[.int .i64 fn, .string fd, .int .i64 fy] 24)).keep e0
        by_cases p6 : fn ≤ pn
        · have q6 : decide (fn ≤ pn) = true := decide_eq_true p6
          have HF : Hid (mayL room l = false) := by
            have h9 := HM.out
            rw [okF_false1 (fun e => by have := e.1; simp only at this; omega)] at h9
            exact HMy.out.trans h9
          clear HM
          go_upto_region 11 with fail
          go_quiet (fail)
          go_wp2
          go_ret2
          unfold RlR
          rw [HF.out]
          exact ⟨rfl, HG.out.trans (HGr.out.alloc.dn _)⟩
        · have q6 : decide (fn ≤ pn) = false := decide_eq_false p6
          by_cases p7 : room < (us : Int) + (fd.size : Int)
          · have q7 : decide (room < (us : Int) + (fd.size : Int)) = true := decide_eq_true p7
            have HF : Hid (mayL room l = false) := by
              have h9 := HM.out
              rw [okF_false2 (fun e => by have := e.2; simp only at this; omega)] at h9
              exact HMy.out.trans h9
            clear HM
            go_upto_region 11 with fail
            go_quiet (fail)
            go_wp2
            go_ret2
            unfold RlR
            rw [HF.out]
            exact ⟨rfl, HG.out.trans (HGr.out.alloc.dn _)⟩
          · have q7 : decide (room < (us : Int) + (fd.size : Int)) = false := decide_eq_false p7
            have HM2 : Hid (mayA 0 room l = mayA (fn + 1) (room - ((us + fd.size : Nat) : Int)) (l.drop ((j + 1) + 1))) := by
              have h9 := HM.out
              rw [okF_true ⟨by simp only; omega, by simp only; omega⟩ ⟨by simp only; omega, by simp only; omega⟩ ⟨by simp only; omega, by simp only; omega⟩, Bool.true_and] at h9
              rw [show room - ((us + fd.size : Nat) : Int) = room - (us : Int) - (fd.size : Int) by omega]
              exact h9
            clear HM
            go_upto_region 11 with fail
            go_quiet (fail)
            go_wp2
            go_roundw
            case rel => exact ⟨(j + 1) + 1, by omega, by simp, by rw [HUt.out]; simp, by rw [HUt.out]; simp; omega, by rw [HLs.out]; omega, by rw [HLs.out]; omega, by rw [HLs.out, HUt.out]; exact HM2.out, HGr.out.alloc.dn _⟩
            case measure => simp [intOf]; omega
    · obtain rfl : k = l.length := by omega
      rw [List.drop_length] at hm
      have HMt : Hid (mayL room l = true) := HMy.out.trans hm
      have Lit := Lib.hid (own_lit0 wr w1.heap.size 24 wr.heap.size rfl hg.size)
      have hRl := Lib.hid (HL.out.gr ((HG.out.trans hg).alloc (o := .cells #[] 24)))
      have c4 := hg.keep hr4
      have c4' := (hg.alloc (o := .cells #[] 24)).keep hr4
      have hsw := hg.size
      clear hg hm
      go_wp2_with (first
        | (at_builtin; refine wpList_append_row rfl _ _ 22 rfl w1.heap.size 24 i0 (.agg #[.int .i64 0, .string ⟨#[]⟩, .int .i64 0]) 3 32 Tryz.underlying22 hi0 hz0 hz1 hz2 rfl (by decide) _ 0 [] rfl Lit.out flf_len l ad cap rfl HCp.out hRl.out (flf_one _) (by unfold maxLen; omega) (by omega) (by simp; omega) ?_)
        | fail)
      intro v4 w4 ho4 hgr4 _
      try simp only [Nat.zero_add, List.nil_append] at ho4
      have G4 := Lib.hid (own_gr Lit.out HGr.out.alloc hgr4 (Nat.le_refl _))
      obtain ⟨a4, k4, rfl, hc1, hc2, hrow4, hb4, _⟩ := own_row ho4
      have HXf := Lib.hid ((HR.out.gr G4.out).setFiles (L := l) hrow4 (fun p e => ⟨by have := hb4 p e; omega, fun hx => by have := hb4 p e; have := HR.out.xl _ hx; omega⟩) hc1 hc2 (mayL_ok HMt.out))
      have c4f := G4.out.keep hr4
      have f4f := G4.out.keepF hrl hrf
      have HTg : Hid (Gr w (w4.setCell ⟨r, 4, none⟩ (.slice a4 l.length k4))) := (HG.out.trans G4.out).set _ (by simp only; omega) _
      clear ho4 hgr4 hrow4 hb4
      go_wp2
      go_ret2
      unfold RlR
      rw [HMt.out]
      exact ⟨r, rfl, ⟨_, _, _, _, HXf.out⟩, by omega, HTg.out⟩
theorem rload_any (room : Int) (l : List Fl) (ad : Option Addr) (cap : Nat) (hx : ∀ j, X j → j < w.heap.size) (hL : RowAt flf w ad l) (hcap : ad = none → cap = 0) (hsum : used l ≤ 9223372036854775807) :
    Calls Tryz.prog 7 #[.int .i64 room, .slice ad l.length cap] w fun e w' => RlR X w w' room l e := by
  by_cases h : 0 ≤ room ∧ room ≤ 200000
  · by_cases h8 : l.length ≤ 8
    · exact rload_main room l ad cap hx hL hcap hsum h h8
    · exact rload_l2 room l ad cap hx h h8
  · exact rload_l1 room l ad cap hx h
end Go.Proofs.YtojmhhmpmpbpfaaGreatDoor
