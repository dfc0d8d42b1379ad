/- For every input the law IdentPaths answers true: a child has its parent, at that step, and one organisation more in its path. -/
import Derived.Test.YtmidlcipbpchgabDoorLaidR
import Derived.Test.YtmidlcipbpchgabDoorOpenI
import Derived.Test.YtmidlcipbpchgabDoorAwk3
import Derived.Test.YtmidlcipbpchgabDoorRCmpP
import Derived.Test.YtmidlcipbpchgabDoorFewP
import Derived.Test.YtmidlcipbpchgabDoorPathM
import Derived.SevenTiedAt
namespace Go.Proofs.YtmidlcipbpchgabDoor
open Go.ChangeShapes Go.WideShapes Go.ChangeAt Go.RowKit
open Go.ChangeMaps (open_string shut_string)

theorem lens_lit1 (w : World) (a1 b1 : Value) (d1 : Option Addr) (l1 c1 : Nat) (t : TypeId) (g : Nat) (hg : g = w.heap.size) :
    LensAt (w.alloc (.cells #[a1, b1, .slice d1 l1 c1] t)) (some ⟨g, 0, none⟩) [l1] := by
  subst hg
  intro j hj
  obtain rfl : j = 0 := by simpa using hj
  exact ⟨_, _, rfl, by simp, d1, c1, by simp⟩
theorem slice_lowI (ad : Option Addr) (n cap c : Nat) (hc : c ≤ n) (hn : n ≤ cap) (W : World) :
    (Instr.sliceAt 27 (.slice ad n cap) none (some (.int .i64 c)) none).run Tryd.prog W = .ok (.slice ad c cap) W := by
  have h1 : (c : Int) ≤ cap := by omega
  go_simp
theorem path_five (r n : Int) (L : List (Int × Int)) : (pathE r n L).length ≤ 5 ∧ (pathE r n L).Nodup := by
  unfold pathE
  split
  · next h => exact ⟨by rw [path_len]; have := may_len h; omega, Idn.may_nodup h⟩
  · exact ⟨by simp, List.nodup_nil⟩
theorem met_more (P : List Int) (o : Int) (k : Nat) (h : k < P.length) : (P.take (k + 1)).contains o = ((P.take k).contains o || P[k] == o) := by
  rw [List.take_succ_eq_append_getElem h]
  simp only [List.contains_eq_mem, List.mem_append, List.mem_singleton, Bool.decide_or]
  congr 1
  by_cases e : o = P[k]
  · rw [decide_eq_true e]; exact (beq_iff_eq.2 e.symm).symm
  · rw [decide_eq_false e]; exact (beq_eq_false_iff_ne.2 (fun x => e x.symm)).symm

set_option maxHeartbeats 20000000 in
set_option maxRecDepth 100000 in
theorem identPaths_few (r n : Int) (L : List (Int × Int)) (ad : Option Addr) (cap : Nat) (s o : Int) (w : World) (he : Env w) (hL : HopsAt w ad L) (hf : fewB [L.length] = true) (hz : ad = none → cap = 0) :
    Calls Tryd.prog 3 #[.agg #[.int .i64 r, .int .i64 n, .slice ad L.length cap], .int .i64 s, .int .i64 o] w fun e w' => e = .returned (.bool true) ∧ Gr w w' := by
  have hl : L.length ≤ 200 := by simpa [fewB] using hf
  have HA : Hid (∀ w', Gr w w' → Calls Tryd.prog 10 #[] w' fun e w2 => e = .returned (.bool true) ∧ Gr w' w2) := fun w' g => awake_any w' (he.gr g)
  have HF : Hid (∀ (w' : World) (g : Nat), LensAt w' (some ⟨g, 0, none⟩) [L.length] → Calls Tryd.prog 9 #[.slice (some ⟨g, 0, none⟩) 1 1] w' fun e w2 => e = .returned (.bool (fewB [L.length])) ∧ w2 = w') := fun w' g h => few_any [L.length] _ 1 w' h (by simp) (by simp; omega)
  rw [hf] at HF
  have HPt : Hid (∀ w', Gr w w' → Calls Tryd.prog 11 #[.agg #[.int .i64 r, .int .i64 n, .slice ad L.length cap]] w' fun e w2 => ∃ ad2 cap2, e = .returned (.slice ad2 (pathE r n L).length cap2) ∧ (pathE r n L).length ≤ cap2 ∧ IntsAt w2 ad2 (pathE r n L) ∧ Gr w' w2) := fun w' g => path_any r n L ad cap w' (hL.gr g) (by omega)
  have HCk : Hid (∀ w', Gr w w' → Calls Tryd.prog 12 #[.agg #[.int .i64 r, .int .i64 n, .slice ad L.length cap]] w' fun e w2 => e = .returned (.int .i64 (errB (Idn.mayB r n L))) ∧ Gr w' w2) := fun w' g => check_any r n L ad cap w' (hL.gr g) (by omega)
  have HCh : Hid (∀ w', Gr w w' → Calls Tryd.prog 13 #[.agg #[.int .i64 r, .int .i64 n, .slice ad L.length cap], .int .i64 s, .int .i64 o] w' fun e w2 =>
      ((Idn.mayB r n (L ++ [(s, o)]) = true ∧ ∃ ad2 cap2, e = .returned (.tuple #[.agg #[.int .i64 r, .int .i64 n, .slice ad2 (L.length + 1) cap2], .int .i64 0]) ∧ L.length + 1 ≤ cap2 ∧ HopsAt w2 ad2 (L ++ [(s, o)])) ∨
       (Idn.mayB r n (L ++ [(s, o)]) = false ∧ e = .returned (.tuple #[.agg #[.int .i64 0, .int .i64 0, .slice none 0 0], .int .i64 30]))) ∧ Gr w' w2) := fun w' g => child_any r n s o L ad cap w' (hL.gr g) hz (by omega)
  have HSm : Hid (∀ w' : World, Calls Tryd.prog 14 #[.agg #[.int .i64 0, .int .i64 0, .slice none 0 0], .agg #[.int .i64 0, .int .i64 0, .slice none 0 0]] w' fun e w2 => e = .returned (.bool true) ∧ Gr w' w2) := fun w' => same_any 0 0 [] none 0 0 0 [] none 0 w' HopsAt.nil HopsAt.nil (by simp) (by simp)
  obtain ⟨hp5, hnd⟩ := path_five r n L
  have HND : Hid ((pathE r n L).Nodup) := hnd
  -- what holds of a child that is told
  have HY : Hid (Idn.mayB r n (L ++ [(s, o)]) = true → (pathE r n L).contains o = false ∧ L.length ≤ 3 ∧ pathE r n (L ++ [(s, o)]) = pathE r n L ++ [o] ∧ 0 < (pathE r n L).length) := by
    intro hm
    obtain ⟨h1, h2⟩ := Idn.may_snoc hm
    have h3 := may_len hm
    rw [List.length_append, List.length_singleton] at h3
    have e1 : pathE r n L = Idn.path r L := by unfold pathE; rw [if_pos h1]
    have e2 : pathE r n (L ++ [(s, o)]) = Idn.path r L ++ [o] := by unfold pathE; rw [if_pos hm, Idn.path_snoc]
    refine ⟨?_, by omega, by rw [e1, e2], by rw [e1, path_len]; omega⟩
    rw [e1, List.contains_eq_mem]
    exact decide_eq_false h2
  have HPa : Hid (Idn.mayB r n (L ++ [(s, o)]) = true → ∀ (w' : World) (a : Option Addr) (c : Nat), HopsAt w' a (L ++ [(s, o)]) → L.length + 1 ≤ c → Calls Tryd.prog 15 #[.agg #[.int .i64 r, .int .i64 n, .slice a (L.length + 1) c]] w' fun e w2 => ∃ ad3 cap3, e = .returned (.tuple #[.agg #[.int .i64 r, .int .i64 n, .slice ad3 L.length cap3], .int .i64 s, .bool true]) ∧ HopsAt w2 ad3 L ∧ Gr w' w2) := by
    intro hm w' a c h hc
    obtain ⟨b, off, rfl, _⟩ := h 0 (by simp)
    refine (parent_yes r n s o L b off c w' h hc hm (HY.out hm).2.1).mono ?_
    rintro e w2 ⟨a3, c3, rfl, _, h3, hg⟩
    exact ⟨a3, c3, rfl, h3, hg⟩
  have HPc : Hid (Idn.mayB r n (L ++ [(s, o)]) = true → ∀ (w' : World) (a : Option Addr) (c : Nat), HopsAt w' a (L ++ [(s, o)]) → Calls Tryd.prog 11 #[.agg #[.int .i64 r, .int .i64 n, .slice a (L.length + 1) c]] w' fun e w2 => ∃ ad4 cap4, e = .returned (.slice ad4 ((pathE r n L).length + 1) cap4) ∧ (pathE r n L).length + 1 ≤ cap4 ∧ IntsAt w2 ad4 (pathE r n L ++ [o]) ∧ Gr w' w2) := by
    intro hm w' a c h
    have := path_any r n (L ++ [(s, o)]) a c w' h (by simp; omega)
    rw [(HY.out hm).2.2.1, List.length_append, List.length_append, List.length_singleton, List.length_singleton] at this
    exact this
  have HCm : Hid (∀ (w' : World) (a : Option Addr) (c : Nat), Gr w w' → HopsAt w' a L → Calls Tryd.prog 16 #[.agg #[.int .i64 r, .int .i64 n, .slice a L.length c], .agg #[.int .i64 r, .int .i64 n, .slice ad L.length cap]] w' fun e w2 => e = .returned (.int .i64 0) ∧ Gr w' w2) := by
    intro w' a c g h
    have := cmp_any r n L a c r n L ad cap w' h (hL.gr g) (by omega) (by omega)
    rw [(Idn.cmpE_zero r n L r n L).2 ⟨rfl, rfl, rfl⟩] at this
    exact this
  have HOr : Hid (Idn.mayB r n (L ++ [(s, o)]) = true → ∀ (w' : World) (a : Option Addr) (c : Nat), HopsAt w' a (L ++ [(s, o)]) → Calls Tryd.prog 17 #[.agg #[.int .i64 r, .int .i64 n, .slice a (L.length + 1) c]] w' fun e w2 => e = .returned (.int .i64 o) ∧ Gr w' w2) := by
    intro hm w' a c h
    have := org_any r n (L ++ [(s, o)]) a c w' h (by simp; omega)
    rw [show orgE r n (L ++ [(s, o)]) = o by unfold orgE; rw [(HY.out hm).2.2.1]; simp, List.length_append, List.length_singleton] at this
    exact this
  have HNu : Hid (∀ (w' : World) (a b : Option Addr) (c d : Nat), IntsAt w' a (pathE r n L) → IntsAt w' b (pathE r n L) → Calls Tryd.prog 18 #[.slice a (pathE r n L).length c, .slice b (pathE r n L).length d] w' fun e w2 => e = .returned (.bool true) ∧ Gr w' w2) := fun w' a b c d ha hb => numbers_same _ a b c d w' ha hb (by omega)
  have hmp : (Idn.mayB r n L = true ∧ 0 < (pathE r n L).length) ∨ (Idn.mayB r n L = false ∧ (pathE r n L).length = 0) := by
    unfold pathE
    cases h : Idn.mayB r n L with
    | true => left; exact ⟨rfl, by rw [if_pos rfl, path_len]; omega⟩
    | false => right; exact ⟨rfl, by simp⟩
  have HMP : Hid (((0 : Int) < ((pathE r n L).length : Int) ∧ errB (Idn.mayB r n L) = 0) ∨ (¬ (0 : Int) < ((pathE r n L).length : Int) ∧ errB (Idn.mayB r n L) = 30)) := by
    rcases hmp with ⟨h1, h2⟩ | ⟨h1, h2⟩
    · left; exact ⟨by omega, by rw [h1]; rfl⟩
    · right; exact ⟨by omega, by rw [h1]; rfl⟩
  clear hmp hnd
  generalize errB (Idn.mayB r n L) = ev at *
  generalize Idn.mayB r n (L ++ [(s, o)]) = mc at *
  generalize pathE r n (L ++ [(s, o)]) = Q at *
  generalize pathE r n L = P at *
  have hp5' : ¬ (5 : Int) < (P.length : Int) := by omega
  clear he hf hL hz hl
  go_enter Tryd.func3, Tryd.ntmps3
  go_wp2_with fail
  refine (HF.out _ _ (lens_lit1 _ _ _ _ _ _ _ _ (by simp))).mono ?_
  rintro e1 w1 ⟨rfl, hw1⟩
  have G1 : Hid (Gr w w1) := by rw [hw1]; exact (by repeat (first | exact Gr.refl _ | refine Gr.alloc ?_ | refine Gr.drew ?_ | refine Gr.trans ?_ (by assumption)))
  have B1 : Hid (BoxAt w1 w.heap.size (.int .i64 r) (.int .i64 n) (.slice ad L.length cap)) := by
    rw [hw1]; exact (BoxAt.new w _ _ _ _ _ rfl).gr (by repeat (first | exact Gr.refl _ | refine Gr.alloc ?_ | refine Gr.drew ?_ | refine Gr.trans ?_ (by assumption)))
  clear hw1 HF
  obtain ⟨a0, a1, a2, _, _, _, alt⟩ := B1.out
  go_wp2_with fail
  refine (HPt.out _ G1.out).mono ?_
  rintro e2 w2 ⟨adP, capP, rfl, hcp, hia, hg2⟩
  have G2 : Hid (Gr w w2) := G1.out.trans hg2
  have B2 : Hid (BoxAt w2 w.heap.size (.int .i64 r) (.int .i64 n) (.slice ad L.length cap)) := B1.out.gr hg2
  have I2 : Hid (IntsAt w2 adP P) := hia
  clear a0 a1 a2 alt hia hg2 B1 G1 HPt hcp
  obtain ⟨a0, a1, a2, _, _, _, alt⟩ := B2.out
  go_wp2_with fail
  refine (HCk.out _ G2.out).mono ?_
  rintro e3 w3 ⟨rfl, hg3⟩
  have G3 : Hid (Gr w w3) := G2.out.trans hg3
  have B3 : Hid (BoxAt w3 w.heap.size (.int .i64 r) (.int .i64 n) (.slice ad L.length cap)) := B2.out.gr hg3
  have I3 : Hid (IntsAt w3 adP P) := I2.out.gr hg3
  clear a0 a1 a2 alt hg3 B2 G2 HCk I2
  rcases HMP.out with ⟨hlt0, rfl⟩ | ⟨hlt0, rfl⟩
  · clear HMP
    have hdb : decide (0 < P.length) = true := decide_eq_true (by omega)
    have hdn : 0 < P.length := by omega
    go_wp2
    clear hdb
    go_loopw [8, 9] (fun m i wr => ∃ k : Nat, k ≤ P.length ∧ i = .int .i64 k ∧ m = .bool ((P.take k).contains o) ∧ Gr w3 wr) (fun _ i _ => P.length - (intOf i).toNat)
    case atStart => exact ⟨0, by omega, rfl, rfl, Gr.refl _⟩
    case round =>
      obtain ⟨k, hk, rfl, rfl, hg⟩ := hrel
      obtain ⟨wo, rfl⟩ : ∃ x, x = wr := ⟨_, rfl⟩
      by_cases hlt : k < P.length
      · obtain ⟨b, off, rfl, hbl, hc⟩ := I3.out k hlt
        have HMM : Hid ((P.take (k + 1)).contains o = ((P.take k).contains o || P[k] == o)) := met_more P o k hlt
        have HNE : Hid (∀ j (h : j < k), (P[k] == P[j]'(by omega)) = false) := fun j h => Idn.nodup_get HND.out hlt (by omega) (by omega)
        have hck := hg.keep hc
        have GO : Hid (Gr w3 wo) := hg
        have hki : (k : Int) < (P.length : Int) := by omega
        have HCK : Hid (w3.cell? ⟨b, off + k, none⟩ = some (.int .i64 P[k])) := hc
        clear hc hg
        obtain ⟨pk, epk⟩ : ∃ x, P[k] = x := ⟨_, rfl⟩
        rw [epk] at hck HMM HCK
        simp only [epk] at HNE
        clear epk
        obtain ⟨m1, em1⟩ : ∃ x, (P.take k).contains o = x := ⟨_, rfl⟩
        rw [em1] at HMM
        rw [em1]
        clear em1
        obtain ⟨m2, em2⟩ : ∃ x, (pk == o) = x := ⟨_, rfl⟩
        rw [em2] at HMM
        have hbw : b < wo.heap.size := Nat.lt_of_lt_of_le hbl GO.out.size
        cases m1
        all_goals
          go_wp2
          clear hck
          go_loopw [10] (fun i wr => ∃ j : Nat, j ≤ k ∧ i = .int .i64 j ∧ Gr w3 wr) (fun i _ => k - (intOf i).toNat)
          case atStart => exact ⟨0, by omega, rfl, GO.out⟩
          case round =>
            obtain ⟨j, hj, rfl, hg⟩ := hrel
            by_cases hlt2 : j < k
            · obtain ⟨b', off', ebb, _, hcj⟩ := I3.out j (by omega)
              obtain ⟨rfl, rfl⟩ : b' = b ∧ off' = off := by simpa [eq_comm] using ebb
              have hne := HNE.out j hlt2
              have hdk := hg.keep HCK.out
              have hdj := hg.keep hcj
              have hji : (j : Int) < (P.length : Int) := by omega
              have hbw2 : b' < wr.heap.size := Nat.lt_of_lt_of_le hbl hg.size
              clear hcj ebb
              generalize P[j]'(by omega) = pj at *
              go_wp2
              go_region
              go_wp2
              go_roundw
              case rel => exact ⟨j + 1, by omega, by go_num, hg.drew⟩
              case measure => simp [intOf]; omega
            · go_wp2
              go_roundw
              case rel => exact ⟨k + 1, by omega, by go_num, by rw [HMM.out]; simp, hg⟩
              case measure => simp [intOf]; omega
      · obtain rfl : k = P.length := by omega
        obtain ⟨mt, emt⟩ : ∃ x, (P.take P.length).contains o = x := ⟨_, rfl⟩
        have HMT : Hid (P.contains o = mt) := by show _ = _; rw [← emt, List.take_length]
        rw [emt]
        clear emt
        obtain ⟨a0, a1, a2, _, _, _, alt⟩ := B3.out.gr hg
        have GO : Hid (Gr w wo) := G3.out.trans hg
        have BO : Hid (BoxAt wo w.heap.size (.int .i64 r) (.int .i64 n) (.slice ad L.length cap)) := B3.out.gr hg
        have JO : Hid (IntsAt wo adP P) := I3.out.gr hg
        clear hg hlt hk B3 I3 G3
        go_wp2_with fail
        refine (HCh.out _ GO.out).mono ?_
        rintro e4 w4 ⟨⟨hmc, ad4, cap4, rfl, hcp4, q4⟩ | ⟨_, rfl⟩, hg4⟩
        · obtain rfl : mt = false := by rw [← HMT.out]; exact (HY.out hmc).1
          have HMC : Hid (mc = true) := hmc
          have HC4 : Hid (L.length + 1 ≤ cap4) := hcp4
          have G4 : Hid (Gr w w4) := GO.out.trans hg4
          have B4 : Hid (BoxAt w4 w.heap.size (.int .i64 r) (.int .i64 n) (.slice ad L.length cap)) := BO.out.gr hg4
          have I4 : Hid (IntsAt w4 adP P) := JO.out.gr hg4
          have Q4 : Hid (HopsAt w4 ad4 (L ++ [(s, o)])) := q4
          clear a0 a1 a2 alt hg4 q4 hcp4 hmc GO BO JO HCh HMT HSm
          go_wp2_with fail
          refine (HPa.out HMC.out _ _ _ Q4.out.alloc HC4.out).mono ?_
          rintro e5 w5 ⟨ad5, cap5, rfl, q5, hg5⟩
          have G5 : Hid (Gr w w5) := G4.out.alloc.trans hg5
          have B5 : Hid (BoxAt w5 w.heap.size (.int .i64 r) (.int .i64 n) (.slice ad L.length cap)) := (B4.out.gr (Gr.refl _).alloc).gr hg5
          have D5 : Hid (BoxAt w5 w4.heap.size (.int .i64 r) (.int .i64 n) (.slice ad4 (L.length + 1) cap4)) := (BoxAt.new w4 _ _ _ 24 _ rfl).gr hg5
          have I5 : Hid (IntsAt w5 adP P) := (I4.out.gr (Gr.refl _).alloc).gr hg5
          have Q5 : Hid (HopsAt w5 ad4 (L ++ [(s, o)])) := Q4.out.alloc.gr hg5
          have R5 : Hid (HopsAt w5 ad5 L) := q5
          clear hg5 q5 G4 B4 I4 Q4 HPa HC4
          obtain ⟨d0, d1, d2, _, _, _, dlt⟩ := D5.out
          go_wp2_with fail
          refine (HPc.out HMC.out _ _ _ Q5.out.alloc).mono ?_
          rintro e6 w6 ⟨ad6, cap6, rfl, hcp6, i6, hg6⟩
          have G6 : Hid (Gr w w6) := G5.out.alloc.trans hg6
          have B6 : Hid (BoxAt w6 w.heap.size (.int .i64 r) (.int .i64 n) (.slice ad L.length cap)) := (B5.out.gr (Gr.refl _).alloc).gr hg6
          have D6 : Hid (BoxAt w6 w4.heap.size (.int .i64 r) (.int .i64 n) (.slice ad4 (L.length + 1) cap4)) := (D5.out.gr (Gr.refl _).alloc).gr hg6
          have E6 : Hid (BoxAt w6 w5.heap.size (.int .i64 r) (.int .i64 n) (.slice ad5 L.length cap5)) := (BoxAt.new w5 _ _ _ 24 _ rfl).gr hg6
          have I6 : Hid (IntsAt w6 adP P) := (I5.out.gr (Gr.refl _).alloc).gr hg6
          have Q6 : Hid (HopsAt w6 ad4 (L ++ [(s, o)])) := Q5.out.alloc.gr hg6
          have R6 : Hid (HopsAt w6 ad5 L) := R5.out.alloc.gr hg6
          have J6 : Hid (IntsAt w6 ad6 P) := by
            have h := i6.take P.length
            rw [List.take_left] at h
            exact h
          have hsl := slice_lowI ad6 (P.length + 1) cap6 P.length (by omega) hcp6
          clear hg6 i6 hcp6 G5 B5 D5 I5 Q5 R5 HPc d0 d1 d2 dlt
          obtain ⟨a0, a1, a2, _, _, _, alt⟩ := B6.out
          obtain ⟨b0, b1, b2, _, _, _, blt⟩ := E6.out
          have f1 : (s == s) = true := by simp
          have f2 : (o == o) = true := by simp
          go_wp2_with fail
          refine (HCm.out _ _ _ G6.out R6.out).mono ?_
          rintro e7 w7 ⟨rfl, hg7⟩
          have G7 : Hid (Gr w w7) := G6.out.trans hg7
          have D7 : Hid (BoxAt w7 w4.heap.size (.int .i64 r) (.int .i64 n) (.slice ad4 (L.length + 1) cap4)) := D6.out.gr hg7
          have I7 : Hid (IntsAt w7 adP P) := I6.out.gr hg7
          have Q7 : Hid (HopsAt w7 ad4 (L ++ [(s, o)])) := Q6.out.gr hg7
          have J7 : Hid (IntsAt w7 ad6 P) := J6.out.gr hg7
          clear hg7 G6 B6 D6 E6 I6 Q6 R6 J6 HCm a0 a1 a2 alt b0 b1 b2 blt
          obtain ⟨d0, d1, d2, _, _, _, dlt⟩ := D7.out
          go_wp2_with fail
          refine (HOr.out HMC.out _ _ _ Q7.out).mono ?_
          rintro e8 w8 ⟨rfl, hg8⟩
          have G8 : Hid (Gr w w8) := G7.out.trans hg8
          have I8 : Hid (IntsAt w8 adP P) := I7.out.gr hg8
          have J8 : Hid (IntsAt w8 ad6 P) := J7.out.gr hg8
          clear hg8 G7 D7 I7 Q7 J7 HOr d0 d1 d2 dlt
          have f3 : ((P.length : Int) + 1 == (P.length : Int) + 1) = true := by simp
          go_wp2_with fail
          refine (HNu.out _ _ _ _ _ J8.out I8.out).mono ?_
          rintro e9 w9 ⟨rfl, hg9⟩
          have G9 : Hid (Gr w w9) := G8.out.trans hg9
          clear hg9
          go_wp2_with fail
          refine (HA.out _ G9.out).mono ?_
          rintro e10 w10 ⟨rfl, hg10⟩
          go_wp2
          go_ret
          exact ⟨rfl, G9.out.trans hg10⟩
        · have G4 : Hid (Gr w w4) := GO.out.trans hg4
          clear hg4
          go_wp2_with fail
          refine (HSm.out _).mono ?_
          rintro e5 w5 ⟨rfl, hg5⟩
          have G5 : Hid (Gr w w5) := G4.out.alloc.trans hg5
          clear hg5
          go_wp2_with fail
          refine (HA.out _ G5.out).mono ?_
          rintro e6 w6 ⟨rfl, hg6⟩
          go_wp2
          go_ret
          exact ⟨rfl, G5.out.trans hg6⟩
  · obtain rfl : P = [] := List.length_eq_zero_iff.1 (by omega)
    clear HMP hlt0
    go_wp2
    go_loopw [8, 9] (fun m i wr => i = .int .i64 0 ∧ m = .bool false ∧ Gr w3 wr) (fun _ _ _ => 0)
    case atStart => exact ⟨rfl, rfl, Gr.refl _⟩
    case round =>
      obtain ⟨rfl, rfl, hg⟩ := hrel
      obtain ⟨a0, a1, a2, _, _, _, alt⟩ := B3.out.gr hg
      have GO : Hid (Gr w wr) := G3.out.trans hg
      clear hg
      go_wp2_with fail
      refine (HCh.out _ GO.out).mono ?_
      rintro e4 w4 ⟨⟨hmc, _⟩ | ⟨_, rfl⟩, hg4⟩
      · exact absurd (HY.out hmc).2.2.2 (by simp)
      have G4 : Hid (Gr w w4) := GO.out.trans hg4
      clear hg4
      go_wp2_with fail
      refine (HSm.out _).mono ?_
      rintro e5 w5 ⟨rfl, hg5⟩
      have G5 : Hid (Gr w w5) := G4.out.alloc.trans hg5
      clear hg5
      go_wp2_with fail
      refine (HA.out _ G5.out).mono ?_
      rintro e6 w6 ⟨rfl, hg6⟩
      go_wp2
      go_ret
      exact ⟨rfl, G5.out.trans hg6⟩

set_option maxHeartbeats 4000000 in
set_option maxRecDepth 100000 in
theorem identPaths_many (r n : Int) (L : List (Int × Int)) (ad : Option Addr) (cap : Nat) (s o : Int) (w : World) (he : Env w) (hf' : fewB [L.length] = false) (hn : L.length ≤ 9223372036854775807) :
    Calls Tryd.prog 3 #[.agg #[.int .i64 r, .int .i64 n, .slice ad L.length cap], .int .i64 s, .int .i64 o] w fun e w' => e = .returned (.bool true) ∧ Gr w w' := by
  have HA : Hid (∀ w', Gr w w' → Calls Tryd.prog 10 #[] w' fun e w2 => e = .returned (.bool true) ∧ Gr w' w2) := fun w' g => awake_any w' (he.gr g)
  have HF : Hid (∀ (w' : World) (g : Nat), LensAt w' (some ⟨g, 0, none⟩) [L.length] → Calls Tryd.prog 9 #[.slice (some ⟨g, 0, none⟩) 1 1] w' fun e w2 => e = .returned (.bool (fewB [L.length])) ∧ w2 = w') := fun w' g h => few_any [L.length] _ 1 w' h (by simp) (by simp; omega)
  rw [hf'] at HF
  clear hf' he
  go_enter Tryd.func3, Tryd.ntmps3
  go_wp2_with fail
  refine (HF.out _ _ (lens_lit1 _ _ _ _ _ _ _ _ (by simp))).mono ?_
  rintro e1 w1 ⟨rfl, hw1⟩; obtain rfl := hw1.symm
  go_wp2_with fail
  refine (HA.out _ ?_).mono ?_
  · exact (by repeat (first | exact Gr.refl _ | refine Gr.alloc ?_ | refine Gr.drew ?_ | refine Gr.trans ?_ (by assumption)))
  rintro e2 w2 ⟨rfl, hg2⟩
  go_wp2
  go_ret
  exact ⟨rfl, (by repeat (first | exact Gr.refl _ | refine Gr.alloc ?_ | refine Gr.drew ?_ | refine Gr.trans ?_ (by assumption)))⟩
theorem identPaths_walk (r n : Int) (L : List (Int × Int)) (ad : Option Addr) (cap : Nat) (s o : Int) (w : World) (he : Env w) (hL : HopsAt w ad L) (hn : L.length ≤ 9223372036854775807) (hz : ad = none → cap = 0) :
    Calls Tryd.prog 3 #[.agg #[.int .i64 r, .int .i64 n, .slice ad L.length cap], .int .i64 s, .int .i64 o] w fun e w' => e = .returned (.bool true) ∧ Gr w w' := by
  cases hf : fewB [L.length] with
  | true => exact identPaths_few r n L ad cap s o w he hL hf hz
  | false => exact identPaths_many r n L ad cap s o w he hf hn

set_option maxRecDepth 100000 in
theorem identPaths_lifted (os : Os) (started : os.Started) (H : Type) (enc : TypeId × Value → H) :
    ReturnsInHanded {} Tryd.checked os 3 .any (fun w args => (Rows.identPathsSpec.pre enc Tryd.prog Tryd.f3 [] false w args ∧ laidMetH Tryd.prog laidL w) ∧ sizedMet enc Tryd.prog Tryd.f3 (OpenSpec.ofChange Rows.identPathsSpec) false w args)
      (Rows.identPathsSpec.post enc Tryd.prog Tryd.f3 false true false false) := by
  refine returnsInHanded_of_change_and (C := Tryd.checked) (X := fun w _ => laidMetH Tryd.prog laidL w) (fun _ _ _ hh h => h.of_heap hh) own2 started (by kernel_rfl) Tryd.func3
    (ChangeSpec.witness_shaped (enc := enc) (C := Tryd.checked) (os := os) (X := fun w _ => laidMetH Tryd.prog laidL w) false (World.doorLaid Tryd.prog 400 os) #[.agg #[.int .i64 0, .int .i64 0, .slice none 0 0], .int .i64 0, .int .i64 0] 8 rfl (World.shaped_of_RefB (by kernel_rfl) (by kernel_rfl)) (by kernel_rfl) (by kernel_rfl) (by kernel_rfl) (door_met os _)) ?_
  intro W base args ds gs before hval0 hW _ hsz0 hL _
  have hval : ∀ (j : Nat) t v, Tryd.f3.params[j]? = some t → args[j]? = some v → Value.okWide Tryd.prog W .any base t v := hval0
  have hsz : (DataW.weightsEach Tryd.prog (Tryd.f3.params.toList ++ Rows.identPathsSpec.plain.varTypes Tryd.prog) (ds ++ gs)).all (· ≤ reachBytes) = true := hsz0
  have hW' := hW
  obtain ⟨p, q, hA0, hV, rfl, hfz, hnd⟩ := hW
  have hA : DataW.TrodAll enc Tryd.prog W 0 (fun _ => true) true Tryd.f3.params.toList args.toList ds p := hA0
  rw [Tryd.params3] at hA hval hsz
  obtain ⟨v0, v1, v2, d0, d1, d2, p0, p1, p2, rfl, rfl, rfl, h0, h1, h2⟩ := trodAll_three hA
  obtain ⟨rfl, rfl⟩ := trodVars_none hV
  have k0 := h0
  have lt0 : ∀ x ∈ p0, x.block < W.heap.size := by obtain ⟨m, hm⟩ := k0; exact DataW.trod_lt m _ _ _ hm
  obtain ⟨r0, n0, ad0, cap0, L0, rfl, hL0, hn0, hc0, hz0⟩ := open_id (hval 0 24 v0 rfl rfl) h0
  obtain ⟨a1, rfl, rfl, rfl, wa1⟩ := open_int Tryd.underlying3 (hval 1 3 v1 rfl rfl) h1
  obtain ⟨a2, rfl, rfl, rfl, wa2⟩ := open_int Tryd.underlying3 (hval 2 3 v2 rfl rfl) h2
  clear hA0 hval0
  have hT := env_of_laid hL
  refine (identPaths_walk r0 n0 L0 ad0 cap0 a1 a2 W hT hL0 hn0 hz0).mono fun e W' ⟨he, hg⟩ => ?_
  subst he
  exact ⟨_, rfl, _, _, _, [], _, [], hW', trodAll_mk1 (shut_bool Tryd.underlying4 _), trodAll_mk3 (Below.trod laidOut2 (by kernel_rfl) (of_decide_eq_true (by kernel_rfl)) k0 hg.below lt0) (shut_int Tryd.underlying3 wa1) (shut_int Tryd.underlying3 wa2), rfl, hg.below.frame _, fun h => by cases h⟩

theorem identPaths_holds : Rows.IdentPathsSaid :=
  OpenClaim.holds_of_wide 3 Tryd.f3 rfl rfl rfl rfl rfl rfl rfl ⟨rfl, rfl, rfl, rfl, rfl⟩ rfl rfl rfl rfl rfl (by kernel_rfl) Tryd.func3 (by kernel_rfl)
    (of_decide_eq_true (by kernel_rfl)) (by unfold Func.isWrapper; first | (rw [if_pos (by decide +kernel)]; kernel_rfl) | (rw [if_neg (by decide +kernel)]; exact ⟨rfl, rfl⟩))
    (fun os started H enc _ => identPaths_lifted os started H enc)

theorem identPaths_card_holds : Rows.IdentPathsCardSaid :=
  Claim7.holds_tied_plain_at .later [] [.data, .data, .data, .sentinel, .sentinel] true (true, "9a13fadc1322bc278e7fa5e9b49426233945e5fe552674b6b68a9f8865cee2ad") true
    identPaths_holds (fun _ h => by cases h) (by kernel_rfl) (fun _ h => by cases h) identPaths_row_tie rfl ⟨rfl, rfl⟩ (by kernel_rfl) rfl
    (fun f fn hf hfn => by
      obtain rfl : f = 3 := Option.some.inj ((show Tryd.prog.funcNamed "entente/ententelaw03.IdentPaths" = some 3 by kernel_rfl).symm.trans hf) |>.symm
      obtain rfl : fn = Tryd.f3 := (Option.some.inj (Tryd.func3.symm.trans hfn)).symm
      exact ⟨by kernel_rfl, fun j t ht => by
        rw [Tryd.params3] at ht
        have hm : t ∈ [24, 3, 3] := by simpa using Array.mem_of_getElem? ht
        have hall : ([24, 3, 3].all fun u => !Tryd.prog.wantsStandIn u) = true := by kernel_rfl
        exact (show Tryd.prog.wantsStandIn t = false by simpa using List.all_eq_true.1 hall t hm)⟩)
    (by kernel_rfl)
end Go.Proofs.YtmidlcipbpchgabDoor
