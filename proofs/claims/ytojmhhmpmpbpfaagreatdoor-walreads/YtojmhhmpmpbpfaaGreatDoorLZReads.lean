/- For every row of files and every text the law WalReads answers true: on a disk with any files the document's log is opened, or none. -/
import Derived.Test.YtojmhhmpmpbpfaaGreatDoorGA
import Derived.Test.YtojmhhmpmpbpfaaGreatDoorGBB
import Derived.Test.YtojmhhmpmpbpfaaGreatDoorGBE
import Derived.Test.YtojmhhmpmpbpfaaGreatDoorGBC
import Derived.Test.YtojmhhmpmpbpfaaGreatDoorGBF
import Derived.SevenTiedAt
namespace Go.Proofs.YtojmhhmpmpbpfaaGreatDoor
open Go.ChangeShapes Go.WideShapes Go.ChangeAt Go.RowKit
open Go.ChangeMaps (open_string shut_string)
open Dk (Fl Fo St Ok used)
variable {X : Nat → Prop} {u w w' w2 : World} {b m g r : Nat} {s : St}

theorem tr_gr {a : World} (g : Gr a w) (t : Tr w w' r) (hr : a.heap.size ≤ r) : Gr a w' :=
  ⟨⟨t.os.trans g.below.os, t.tape.trans g.below.tape, t.output.trans g.below.output, Nat.le_trans g.below.size t.size, fun j hj => by
    rw [t.block j (Nat.lt_of_lt_of_le hj g.size) (fun e => by injection e with e; omega)]
    exact g.below.block j hj⟩⟩
theorem Rf.td (h : Rf (fun j => j = b ∨ j = m) w r s) (t : Td w w' b m) : Rf (fun j => j = b ∨ j = m) w' r s := by
  obtain ⟨fa, fc, ka, kc, h⟩ := h
  exact ⟨fa, fc, ka, kc, h.keep t.size (fun j hj hx => t.block j hj (fun e => hx (Or.inl e)) (fun e => hx (Or.inr e)))⟩
theorem same_eq (L : List ByteArray) (a1 a2 : Option Addr) (c1 c2 : Nat) (w : World) (hn : L.length ≤ 9223372036854775807) (h1 : StrsAt w a1 L) (h2 : StrsAt w a2 L) :
    Calls Tryz.prog 10 #[.slice a1 L.length c1, .slice a2 L.length c2] w fun e w' => e = .returned (.bool true) ∧ Gr w w' := by
  refine (sameG_any L L a1 a2 c1 c2 w hn hn h1 h2).mono ?_
  rintro e w' ⟨rfl, k⟩
  exact ⟨by simp, k⟩
/- both logs are opened: what is asked behind it -/
theorem reads_both {w0 : World} (hT : Tab w0) (d : ByteArray) (hd : d.size ≤ 140737488355328) (k : New w0 w b m s) (kr : Rf (fun j => j = b ∨ j = m) w r s) :
    Calls Tryz.prog 8 #[ptr b, .string d] w fun e w1 => OpI w w1 b m (Wl.opn s d) e ∧ New w0 w1 b m (Wl.opn s d).st ∧ Rf (fun j => j = b ∨ j = m) w1 r s := by
  refine (v_open k hT d hd).mono ?_
  rintro e w1 ⟨q1, q2⟩
  exact ⟨q1, q2, kr.td q1.1.2⟩
theorem look_bodies (h : Ok s) : (Sg.look s.L).bodies.length ≤ 200000 := by
  unfold Sg.look
  split
  · split
    · split
      · simp
      · rename_i hm
        rcases Sg.lw_range s.L s.L.length with (h1 | h1) | ⟨p, hp, h1, _⟩
        · rw [h1] at hm; exact absurd rfl hm
        · rw [h1] at hm; exact absurd rfl hm
        · rw [h1]
          show (Sg.found s.L p).bodies.length ≤ 200000
          unfold Sg.found
          rw [Sg.at_eq s.L p hp]
          split
          · have := (Sl.cut_facts _ 3 _ _ _ (show Sl.cutE s.L[p].d.data.toList 3 = ((Sg.cut s.L[p]).1, (Sg.cut s.L[p]).2.1, (Sg.cut s.L[p]).2.2) from rfl)).2.1
            have h2 := Dk.used_del h.up (Dk.has_of (List.getElem_mem hp))
            rw [Dk.get_of h.up (List.getElem_mem hp)] at h2
            have h4 := h.fits
            have h5 := h.r1
            have h3 : s.L[p].d.data.toList.length = s.L[p].d.size := by simp
            show (Sg.cut s.L[p]).1.length ≤ 200000
            omega
          · simp [Sg.bad]
    · simp [Sg.bad]
  · simp [Sg.bad]
theorem opn_bodies (h : Ok s) (d : ByteArray) : (Wl.opn s d).bo.length ≤ 200000 := by
  have h1 := look_bodies h
  unfold Wl.opn
  repeat' split
  all_goals first | exact h1 | simp
theorem bo_len (L : List (List UInt8)) : (L.map mkT).length = L.length := by simp
set_option maxHeartbeats 8000000 in
set_option maxRecDepth 100000 in
theorem walReads_walk (L : List Fl) (ad : Option Addr) (cap : Nat) (d : ByteArray) (w : World) (hT : Tab w) (hL : RowAt flf w ad L) (hn : L.length ≤ 9223372036854775807) (hz : ∀ f ∈ L, f.d.size ≤ 9223372036854775807) (hcap : ad = none → cap = 0) (hd : d.size ≤ 140737488355328) :
    Calls Tryz.prog 3 #[.slice ad L.length cap, .string d] w fun e w' => e = .returned (.bool true) ∧ Gr w w' := by
  have HA : Hid (∀ w', Gr w w' → Calls Tryz.prog 5 #[] w' fun e w2 => e = .returned (.bool true) ∧ Gr w' w2) := fun w' g => awake17_any w' (hT.gr g)
  have HL := Lib.hid hL
  have HZ := Lib.hid hz
  have HT := Lib.hid hT
  have HC := Lib.hid hcap
  clear hL hT hz hcap
  go_enter Tryz.func3, Tryz.ntmps3
  go_wp2
  go_loopw [5, 6] (fun n i wr => ∃ k m : Nat, k ≤ L.length ∧ m ≤ 60000 ∧ i = .int .i64 k ∧ n = .int .i64 m ∧ used (L.take k) ≤ m ∧ wr = w) (fun _ i _ => L.length - (intOf i).toNat)
  case atStart => exact ⟨0, 0, by omega, by omega, rfl, rfl, by simp [used], rfl⟩
  case round =>
    obtain ⟨k, m, hk, hm, rfl, rfl, hu, rfl⟩ := hrel
    by_cases hlt : k < L.length
    · obtain ⟨b, off, rfl, hbl, _, hc, _⟩ := fl_at HL.out k hlt
      have hz := HZ.out L[k] (List.getElem_mem hlt)
      have HU : Hid (used (L.take (k + 1)) = used (L.take k) + L[k].d.size) := by
        show _ = _
        unfold used
        rw [List.take_succ_eq_append_getElem hlt, List.map_append, List.sum_append]
        simp
      generalize L[k].d = fd at *
      have hki : (k : Int) < (L.length : Int) := by omega
      by_cases hbig : 60000 < m + (20 + min fd.size 100000)
      · have hbi : (60000 : Int) < (m : Int) + (20 + min (fd.size : Int) 100000) := by omega
        clear HU
        go_wp2_with fail
        refine (HA.out _ (Gr.refl _)).mono ?_
        rintro e w2 ⟨rfl, hg2⟩
        have HG2 := Lib.hid hg2
        clear hg2
        go_wp2
        go_ret
        exact ⟨rfl, HG2.out⟩
      · have hbi : ¬ (60000 : Int) < (m : Int) + (20 + min (fd.size : Int) 100000) := by omega
        have HU2 : Hid (used (L.take (k + 1)) ≤ m + (20 + min fd.size 100000)) := by show _ ≤ _; rw [HU.out]; omega
        clear HU
        go_wp2
        go_roundw
        case rel => exact ⟨k + 1, m + (20 + min fd.size 100000), by omega, by omega, by go_num, by go_num, HU2.out, by trivial⟩
        case measure => simp [intOf]; omega
    · rw [List.take_of_length_le (by omega)] at hu
      have HLo := Lib.hid (load_any 70000 L ad cap wr HL.out hn HZ.out (by omega))
      have HRl : Hid (∀ (X : Nat → Prop) w2, Gr wr w2 → (∀ j, X j → j < w2.heap.size) → Calls Tryz.prog 7 #[.int .i64 70000, .slice ad L.length cap] w2 fun e w' => RlR X w2 w' 70000 L e) := fun X w2 g hx => rload_any 70000 L ad cap hx (HL.out.gr g) HC.out (by omega)
      unfold LdR at HLo
      unfold RlR at HRl
      cases hmay : mayL 70000 L with
      | false =>
        rw [hmay] at HLo HRl
        simp only [Bool.false_eq_true, if_false] at HLo HRl
        go_wp2_with fail
        refine HLo.out.mono ?_
        rintro e w1 ⟨rfl, hg1⟩
        have HG1 := Lib.hid hg1
        clear hg1
        go_wp2_with fail
        refine (HRl.out (fun _ => False) _ HG1.out (fun _ h => h.elim)).mono ?_
        rintro e w2 ⟨rfl, hg2⟩
        have HG2 := Lib.hid (HG1.out.trans hg2)
        clear hg2
        go_wp2_with fail
        refine (HA.out _ HG2.out).mono ?_
        rintro e w3 ⟨rfl, hg3⟩
        have HG3 := Lib.hid (HG2.out.trans hg3)
        clear hg3
        go_wp2
        go_ret
        exact ⟨rfl, HG3.out⟩
      | true =>
        rw [hmay] at HLo HRl
        simp only [if_true] at HLo HRl
        go_wp2_with fail
        refine HLo.out.mono ?_
        rintro e w1 ⟨b, m, rfl, hn1⟩
        have HN1 := Lib.hid hn1
        have HB1 := Lib.hid hn1.blt
        clear hn1
        go_wp2_with fail
        refine (HRl.out (fun j => j = b ∨ j = m) _ HN1.out.gr (fun j hj => by have := HB1.out; omega)).mono ?_
        rintro e w2 ⟨r, rfl, hr2, hrs, hg2⟩
        have hb1 := HB1.out
        have hrlt := hr2.lt
        have HR2 := Lib.hid hr2
        have HN2 := Lib.hid (HN1.out.up hg2)
        have hs01 := HN1.out.gr.size
        have hrne : r ≠ b ∧ r ≠ m := ⟨by omega, by omega⟩
        clear hr2 hg2 HB1 HLo HRl HN1
        generalize Dk.new 70000 L = s at *
        have HO := Lib.hid (reads_both HT.out d hd HN2.out HR2.out)
        have HP : Hid (∀ w3, Rf (fun j => j = b ∨ j = m) w3 r s → Calls Tryz.prog 9 #[ptr r, .string d] w3 fun e w4 => RpI (fun j => j = b ∨ j = m) w3 w4 r (Wl.opn s d) e) := fun w3 k => ropen_any k d (by omega)
        have hob : (Wl.opn s d).bo.length ≤ 9223372036854775807 := by have := opn_bodies HR2.out.ok d; omega
        generalize Wl.opn s d = o at *
        obtain ⟨ol, ob, oe, os⟩ := o
        simp only at hob
        go_wp2_with fail
        refine HO.out.mono ?_
        rintro e w3 ⟨⟨hf3, hm3⟩, hn3, hr3⟩
        have HN3 := Lib.hid hn3
        have HR3 := Lib.hid hr3
        have hs3 := hf3.2.size
        have hoe : (oe == oe) = true := by simp
        cases ol with
        | none =>
          simp only at hm3
          subst hm3
          clear hf3 hn3 hr3 HO HR2 HN2
          go_wp2_with fail
          refine (HP.out _ HR3.out).mono ?_
          rintro e w4 ⟨hr4, ht4, hm4⟩
          simp only at hm4 hr4
          subst hm4
          have HSm : Hid (∀ w', Gr w4 w' → Calls Tryz.prog 10 #[.slice none 0 0, .slice none 0 0] w' fun e w2 => e = .returned (.bool true) ∧ Gr w' w2) := fun w' g => same_eq [] none none 0 0 w' (by simp) (fun j hj => absurd hj (by simp)) (fun j hj => absurd hj (by simp))
          obtain ⟨A3, hA3⟩ := HN3.out.at_
          have HI : Hid (∀ w', Gr w4 w' → Calls Tryz.prog 12 #[ptr b] w' fun e w2 => ImR w' w2 os.L e) := fun w' g => image_any ((hA3.grown ht4 (fun e => hrne.1 (by injection e)) (fun e => hrne.2 (by injection e))).gr g)
          have HG4 := Lib.hid (tr_gr HN3.out.gr ht4 (by omega))
          obtain ⟨fa, fc, ka, kc, hra⟩ := hr4
          have HS : Hid (∀ w', Gr w4 w' → w'.cell? ⟨r, 4, none⟩ = some (.slice fa os.L.length fc)) := fun w' g => g.keep hra.fl
          have hl8 := hra.ok.len
          have HRs : Hid (∀ w' a1 c1, RowAt flf w' a1 os.L → Gr w4 w' → Calls Tryz.prog 11 #[.slice a1 os.L.length c1, .slice fa os.L.length fc] w' fun e w2 => e = .returned (.bool true) ∧ Gr w' w2) := fun w' a1 c1 h1 g => rsame_eq os.L a1 fa c1 fc w' h1 (hra.row.gr g) (by omega)
          clear hra hA3 ht4 HP HR3 HN3
          go_upto_region 16 with fail
          refine wp_region_held_drew (S := (fun w' => w'.cell? ⟨r, 4, none⟩ = some (.slice fa os.L.length fc))) (by kernel_rfl) (by first | with_reducible exact hHeld | with_reducible exact HS.out _ G8.out | with_reducible exact HS.out _ G7.out | with_reducible exact HS.out _ G6.out | with_reducible exact HS.out _ G5.out | with_reducible exact HS.out _ (Gr.refl w4).drew) (fun hHeld => ?_)
          refine take_yes 0 66 (v := ?_) rfl rfl (by kernel_rfl) (by kernel_rfl) (by kernel_rfl) (fun _ _ _ h => h) (by rfl) ?_ hHeld ?_
          rotate_left
          · (intro w hSw; (try dsimp only at hSw); go_simp; try with_reducible rfl)
          simp only [Act.put, List.setIfInBounds_toArray, List.set_cons_zero, List.set_cons_succ]
          refine take_yes 1 67 (v := ?_) rfl rfl (by kernel_rfl) (by kernel_rfl) (by kernel_rfl) (fun _ _ _ h => h) (by rfl) ?_ hHeld ?_
          rotate_left
          · (intro w hSw; (try dsimp only at hSw); go_simp; try with_reducible rfl)
          simp only [Act.put, List.setIfInBounds_toArray, List.set_cons_zero, List.set_cons_succ]
          refine take_yes 2 68 (v := ?_) rfl rfl (by kernel_rfl) (by kernel_rfl) (by kernel_rfl) (fun _ _ _ h => h) (by rfl) ?_ hHeld ?_
          rotate_left
          · (intro w hSw; (try dsimp only at hSw); go_simp; try with_reducible rfl)
          simp only [Act.put, List.setIfInBounds_toArray, List.set_cons_zero, List.set_cons_succ]
          refine take_yes 3 69 (v := ?_) rfl rfl (by kernel_rfl) (by kernel_rfl) (by kernel_rfl) (fun _ _ _ h => h) (by rfl) ?_ hHeld ?_
          rotate_left
          · (intro w hSw; (try dsimp only at hSw); go_simp; try with_reducible rfl)
          simp only [Act.put, List.setIfInBounds_toArray, List.set_cons_zero, List.set_cons_succ]
          refine take_yes 4 70 (v := ?_) rfl rfl (by kernel_rfl) (by kernel_rfl) (by kernel_rfl) (fun _ _ _ h => h) (by rfl) ?_ hHeld ?_
          rotate_left
          · (intro w hSw; (try dsimp only at hSw); go_simp; try with_reducible rfl)
          simp only [Act.put, List.setIfInBounds_toArray, List.set_cons_zero, List.set_cons_succ]
          refine take_yes 5 71 (v := ?_) rfl rfl (by kernel_rfl) (by kernel_rfl) (by kernel_rfl) (fun _ _ _ h => h) (by rfl) ?_ hHeld ?_
          rotate_left
          · (intro w hSw; (try dsimp only at hSw); go_simp; try with_reducible rfl)
          simp only [Act.put, List.setIfInBounds_toArray, List.set_cons_zero, List.set_cons_succ]
          refine take_yes 6 72 (v := ?_) rfl rfl (by kernel_rfl) (by kernel_rfl) (by kernel_rfl) (fun _ _ _ h => h) (by rfl) ?_ hHeld ?_
          rotate_left
          · (intro w hSw; (try dsimp only at hSw); go_simp; try with_reducible rfl)
          simp only [Act.put, List.setIfInBounds_toArray, List.set_cons_zero, List.set_cons_succ]
          refine take_yes 7 73 (v := ?_) rfl rfl (by kernel_rfl) (by kernel_rfl) (by kernel_rfl) (fun _ _ _ h => h) (by rfl) ?_ hHeld ?_
          rotate_left
          · (intro w hSw; (try dsimp only at hSw); go_simp; try with_reducible rfl)
          simp only [Act.put, List.setIfInBounds_toArray, List.set_cons_zero, List.set_cons_succ]
          refine take_yes 8 74 (v := ?_) rfl rfl (by kernel_rfl) (by kernel_rfl) (by kernel_rfl) (fun _ _ _ h => h) (by rfl) ?_ hHeld ?_
          rotate_left
          · (intro w hSw; (try dsimp only at hSw); go_simp; try with_reducible rfl)
          simp only [Act.put, List.setIfInBounds_toArray, List.set_cons_zero, List.set_cons_succ]
          refine take_yes 9 75 (v := ?_) rfl rfl (by kernel_rfl) (by kernel_rfl) (by kernel_rfl) (fun _ _ _ h => h) (by rfl) ?_ hHeld ?_
          rotate_left
          · (intro w hSw; (try dsimp only at hSw); go_simp; try with_reducible rfl)
          simp only [Act.put, List.setIfInBounds_toArray, List.set_cons_zero, List.set_cons_succ]
          refine take_yes 10 76 (v := ?_) rfl rfl (by kernel_rfl) (by kernel_rfl) (by kernel_rfl) (fun _ _ _ h => h) (by rfl) ?_ hHeld ?_
          rotate_left
          · (intro w hSw; (try dsimp only at hSw); go_simp; try with_reducible rfl)
          simp only [Act.put, List.setIfInBounds_toArray, List.set_cons_zero, List.set_cons_succ]
          refine take_yes 11 77 (v := ?_) rfl rfl (by kernel_rfl) (by kernel_rfl) (by kernel_rfl) (fun _ _ _ h => h) (by rfl) ?_ hHeld ?_
          rotate_left
          · (intro w hSw; (try dsimp only at hSw); go_simp; try with_reducible rfl)
          simp only [Act.put, List.setIfInBounds_toArray, List.set_cons_zero, List.set_cons_succ]
          refine take_yes 12 78 (v := ?_) rfl rfl (by kernel_rfl) (by kernel_rfl) (by kernel_rfl) (fun _ _ _ h => h) (by rfl) ?_ hHeld ?_
          rotate_left
          · (intro w hSw; (try dsimp only at hSw); go_simp; try with_reducible rfl)
          simp only [Act.put, List.setIfInBounds_toArray, List.set_cons_zero, List.set_cons_succ]
          refine wpAnyH_ready (rs := [13]) (by kernel_rfl) (by simp) (AllReadyH.cons rfl (fun K hK => ?_) AllReadyH.nil)
          go_simp
          (go_at_call 10; refine (HSm.out _ (Gr.refl w4).drew).mono ?_; rintro e w5 ⟨rfl, hg5⟩; have G5 := Lib.hid ((Gr.refl w4).drew.trans hg5); clear hg5)
          (try go_wp2_with fail)
          refine hK.out _ _ (by first | with_reducible exact hHeld | with_reducible exact HS.out _ G8.out | with_reducible exact HS.out _ G7.out | with_reducible exact HS.out _ G6.out | with_reducible exact HS.out _ G5.out | with_reducible exact HS.out _ (Gr.refl w4).drew) (fun hHeldN => ?_)
          clear hHeld hK K
          have hHeld := hHeldN
          clear hHeldN
          refine take_yes 14 80 (v := ?_) rfl rfl (by kernel_rfl) (by kernel_rfl) (by kernel_rfl) (fun _ _ _ h => h) (by rfl) ?_ hHeld ?_
          rotate_left
          · (intro w hSw; (try dsimp only at hSw); go_simp; try with_reducible rfl)
          simp only [Act.put, List.setIfInBounds_toArray, List.set_cons_zero, List.set_cons_succ]
          refine take_yes 15 81 (v := ?_) rfl rfl (by kernel_rfl) (by kernel_rfl) (by kernel_rfl) (fun _ _ _ h => h) (by rfl) ?_ hHeld ?_
          rotate_left
          · (intro w hSw; (try dsimp only at hSw); go_simp; try with_reducible rfl)
          simp only [Act.put, List.setIfInBounds_toArray, List.set_cons_zero, List.set_cons_succ]
          refine take_yes 16 82 (v := ?_) rfl rfl (by kernel_rfl) (by kernel_rfl) (by kernel_rfl) (fun _ _ _ h => h) (by rfl) ?_ hHeld ?_
          rotate_left
          · (intro w hSw; (try dsimp only at hSw); go_simp; try with_reducible rfl)
          simp only [Act.put, List.setIfInBounds_toArray, List.set_cons_zero, List.set_cons_succ]
          refine take_yes 18 84 (v := ?_) rfl rfl (by kernel_rfl) (by kernel_rfl) (by kernel_rfl) (fun _ _ _ h => h) (by rfl) ?_ hHeld ?_
          rotate_left
          · (intro w hSw; (try dsimp only at hSw); go_simp; try with_reducible rfl)
          simp only [Act.put, List.setIfInBounds_toArray, List.set_cons_zero, List.set_cons_succ]
          refine take_yes 19 85 (v := ?_) rfl rfl (by kernel_rfl) (by kernel_rfl) (by kernel_rfl) (fun _ _ _ h => h) (by rfl) ?_ hHeld ?_
          rotate_left
          · (intro w hSw; (try dsimp only at hSw); go_simp; try with_reducible rfl)
          simp only [Act.put, List.setIfInBounds_toArray, List.set_cons_zero, List.set_cons_succ]
          refine take_yes 20 86 (v := ?_) rfl rfl (by kernel_rfl) (by kernel_rfl) (by kernel_rfl) (fun _ _ _ h => h) (by rfl) ?_ hHeld ?_
          rotate_left
          · (intro w hSw; (try dsimp only at hSw); go_simp; try with_reducible rfl)
          simp only [Act.put, List.setIfInBounds_toArray, List.set_cons_zero, List.set_cons_succ]
          refine take_yes 21 87 (v := ?_) rfl rfl (by kernel_rfl) (by kernel_rfl) (by kernel_rfl) (fun _ _ _ h => h) (by rfl) ?_ hHeld ?_
          rotate_left
          · (intro w hSw; (try dsimp only at hSw); go_simp; try with_reducible rfl)
          simp only [Act.put, List.setIfInBounds_toArray, List.set_cons_zero, List.set_cons_succ]
          refine wpAnyH_ready (rs := [17]) (by kernel_rfl) (by simp) (AllReadyH.cons rfl (fun K hK => ?_) AllReadyH.nil)
          go_simp
          (go_at_call 12; refine (HI.out _ G5.out).mono ?_; rintro e w6 ⟨ia, ic, rfl, hrow, _, hg6⟩; have G6 := Lib.hid (G5.out.trans hg6); have HRow := Lib.hid hrow; clear hg6 hrow)
          (try go_wp2_with fail)
          refine hK.out _ _ (by first | with_reducible exact hHeld | with_reducible exact HS.out _ G8.out | with_reducible exact HS.out _ G7.out | with_reducible exact HS.out _ G6.out | with_reducible exact HS.out _ G5.out | with_reducible exact HS.out _ (Gr.refl w4).drew) (fun hHeldN => ?_)
          clear hHeld hK K
          have hHeld := hHeldN
          clear hHeldN
          refine wpAnyH_ready (rs := [22]) (by kernel_rfl) (by simp) (AllReadyH.cons rfl (fun K hK => ?_) AllReadyH.nil)
          go_simp
          (go_at_call 11; refine (HRs.out _ _ _ HRow.out G6.out).mono ?_; rintro e w7 ⟨rfl, hg7⟩; have G7 := Lib.hid (G6.out.trans hg7); clear hg7)
          (try go_wp2_with fail)
          refine hK.out _ _ (by first | with_reducible exact hHeld | with_reducible exact HS.out _ G8.out | with_reducible exact HS.out _ G7.out | with_reducible exact HS.out _ G6.out | with_reducible exact HS.out _ G5.out | with_reducible exact HS.out _ (Gr.refl w4).drew) (fun hHeldN => ?_)
          clear hHeld hK K
          have hHeld := hHeldN
          clear hHeldN
          refine take_yes 23 89 (v := ?_) rfl rfl (by kernel_rfl) (by kernel_rfl) (by kernel_rfl) (fun _ _ _ h => h) (by rfl) ?_ hHeld ?_
          rotate_left
          · (intro w hSw; (try dsimp only at hSw); go_simp; try with_reducible rfl)
          simp only [Act.put, List.setIfInBounds_toArray, List.set_cons_zero, List.set_cons_succ]
          refine take_yes 24 90 (v := ?_) rfl rfl (by kernel_rfl) (by kernel_rfl) (by kernel_rfl) (fun _ _ _ h => h) (by rfl) ?_ hHeld ?_
          rotate_left
          · (intro w hSw; (try dsimp only at hSw); go_simp; try with_reducible rfl)
          simp only [Act.put, List.setIfInBounds_toArray, List.set_cons_zero, List.set_cons_succ]
          refine wpAnyH_ready (rs := [25]) (by kernel_rfl) (by simp) (AllReadyH.cons rfl (fun K hK => ?_) AllReadyH.nil)
          go_simp
          (go_at_call 5; refine (HA.out _ (HG4.out.trans G7.out)).mono ?_; rintro e w8 ⟨rfl, hg8⟩; have G8 := Lib.hid (G7.out.trans hg8); clear hg8)
          (try go_wp2_with fail)
          refine hK.out _ _ (by first | with_reducible exact hHeld | with_reducible exact HS.out _ G8.out | with_reducible exact HS.out _ G7.out | with_reducible exact HS.out _ G6.out | with_reducible exact HS.out _ G5.out | with_reducible exact HS.out _ (Gr.refl w4).drew) (fun hHeldN => ?_)
          clear hHeld hK K
          have hHeld := hHeldN
          clear hHeldN
          refine take_yes 26 92 (v := ?_) rfl rfl (by kernel_rfl) (by kernel_rfl) (by kernel_rfl) (fun _ _ _ h => h) (by rfl) ?_ hHeld ?_
          rotate_left
          · (intro w hSw; (try dsimp only at hSw); go_simp; try with_reducible rfl)
          simp only [Act.put, List.setIfInBounds_toArray, List.set_cons_zero, List.set_cons_succ]
          refine take_yes 27 4 (v := ?_) rfl rfl (by kernel_rfl) (by kernel_rfl) (by kernel_rfl) (fun _ _ _ h => h) (by rfl) ?_ hHeld ?_
          rotate_left
          · (intro w hSw; (try dsimp only at hSw); go_simp; try with_reducible rfl)
          simp only [Act.put, List.setIfInBounds_toArray, List.set_cons_zero, List.set_cons_succ]
          refine wpAnyH_done (by kernel_rfl) ?_ _
          clear hHeld
          go_wp2
          go_ret
          exact ⟨rfl, HG4.out.trans G8.out⟩
        | some l =>
          simp only at hm3
          obtain ⟨g, ab, cb, rfl, hgs, hlg, hbo, hfb, _⟩ := hm3
          have HBo := Lib.hid hbo
          have HFb : Hid (∀ p, ab = some p → p.block ≠ r) := fun p e => by have := hfb p e; omega
          clear hgs hlg hbo hfb
          clear hf3 hn3 hr3 HO HR2 HN2
          go_wp2_with fail
          refine (HP.out _ HR3.out).mono ?_
          rintro e w4 ⟨hr4, ht4, hm4⟩
          simp only at hm4 hr4
          obtain ⟨g2, ab2, cb2, rfl, hbo2⟩ := hm4
          have HSm : Hid (∀ w', Gr w4 w' → Calls Tryz.prog 10 #[.slice ab ob.length cb, .slice ab2 ob.length cb2] w' fun e w2 => e = .returned (.bool true) ∧ Gr w' w2) := by
            intro w' g
            have := same_eq (ob.map mkT) ab ab2 cb cb2 w' (by rw [bo_len]; exact hob) ((Tr.strs HBo.out ht4 HFb.out).gr g) (hbo2.gr g)
            rwa [bo_len] at this
          clear HBo HFb hbo2
          obtain ⟨A3, hA3⟩ := HN3.out.at_
          have HI : Hid (∀ w', Gr w4 w' → Calls Tryz.prog 12 #[ptr b] w' fun e w2 => ImR w' w2 os.L e) := fun w' g => image_any ((hA3.grown ht4 (fun e => hrne.1 (by injection e)) (fun e => hrne.2 (by injection e))).gr g)
          have HG4 := Lib.hid (tr_gr HN3.out.gr ht4 (by omega))
          obtain ⟨fa, fc, ka, kc, hra⟩ := hr4
          have HS : Hid (∀ w', Gr w4 w' → w'.cell? ⟨r, 4, none⟩ = some (.slice fa os.L.length fc)) := fun w' g => g.keep hra.fl
          have hl8 := hra.ok.len
          have HRs : Hid (∀ w' a1 c1, RowAt flf w' a1 os.L → Gr w4 w' → Calls Tryz.prog 11 #[.slice a1 os.L.length c1, .slice fa os.L.length fc] w' fun e w2 => e = .returned (.bool true) ∧ Gr w' w2) := fun w' a1 c1 h1 g => rsame_eq os.L a1 fa c1 fc w' h1 (hra.row.gr g) (by omega)
          clear hra hA3 ht4 HP HR3 HN3
          go_upto_region 16 with fail
          refine wp_region_held_drew (S := (fun w' => w'.cell? ⟨r, 4, none⟩ = some (.slice fa os.L.length fc))) (by kernel_rfl) (by first | with_reducible exact hHeld | with_reducible exact HS.out _ G8.out | with_reducible exact HS.out _ G7.out | with_reducible exact HS.out _ G6.out | with_reducible exact HS.out _ G5.out | with_reducible exact HS.out _ (Gr.refl w4).drew) (fun hHeld => ?_)
          refine take_yes 0 66 (v := ?_) rfl rfl (by kernel_rfl) (by kernel_rfl) (by kernel_rfl) (fun _ _ _ h => h) (by rfl) ?_ hHeld ?_
          rotate_left
          · (intro w hSw; (try dsimp only at hSw); go_simp; try with_reducible rfl)
          simp only [Act.put, List.setIfInBounds_toArray, List.set_cons_zero, List.set_cons_succ]
          refine take_yes 1 67 (v := ?_) rfl rfl (by kernel_rfl) (by kernel_rfl) (by kernel_rfl) (fun _ _ _ h => h) (by rfl) ?_ hHeld ?_
          rotate_left
          · (intro w hSw; (try dsimp only at hSw); go_simp; try with_reducible rfl)
          simp only [Act.put, List.setIfInBounds_toArray, List.set_cons_zero, List.set_cons_succ]
          refine take_yes 2 68 (v := ?_) rfl rfl (by kernel_rfl) (by kernel_rfl) (by kernel_rfl) (fun _ _ _ h => h) (by rfl) ?_ hHeld ?_
          rotate_left
          · (intro w hSw; (try dsimp only at hSw); go_simp; try with_reducible rfl)
          simp only [Act.put, List.setIfInBounds_toArray, List.set_cons_zero, List.set_cons_succ]
          refine take_yes 3 69 (v := ?_) rfl rfl (by kernel_rfl) (by kernel_rfl) (by kernel_rfl) (fun _ _ _ h => h) (by rfl) ?_ hHeld ?_
          rotate_left
          · (intro w hSw; (try dsimp only at hSw); go_simp; try with_reducible rfl)
          simp only [Act.put, List.setIfInBounds_toArray, List.set_cons_zero, List.set_cons_succ]
          refine take_yes 4 70 (v := ?_) rfl rfl (by kernel_rfl) (by kernel_rfl) (by kernel_rfl) (fun _ _ _ h => h) (by rfl) ?_ hHeld ?_
          rotate_left
          · (intro w hSw; (try dsimp only at hSw); go_simp; try with_reducible rfl)
          simp only [Act.put, List.setIfInBounds_toArray, List.set_cons_zero, List.set_cons_succ]
          refine take_yes 5 71 (v := ?_) rfl rfl (by kernel_rfl) (by kernel_rfl) (by kernel_rfl) (fun _ _ _ h => h) (by rfl) ?_ hHeld ?_
          rotate_left
          · (intro w hSw; (try dsimp only at hSw); go_simp; try with_reducible rfl)
          simp only [Act.put, List.setIfInBounds_toArray, List.set_cons_zero, List.set_cons_succ]
          refine take_yes 6 72 (v := ?_) rfl rfl (by kernel_rfl) (by kernel_rfl) (by kernel_rfl) (fun _ _ _ h => h) (by rfl) ?_ hHeld ?_
          rotate_left
          · (intro w hSw; (try dsimp only at hSw); go_simp; try with_reducible rfl)
          simp only [Act.put, List.setIfInBounds_toArray, List.set_cons_zero, List.set_cons_succ]
          refine take_yes 7 73 (v := ?_) rfl rfl (by kernel_rfl) (by kernel_rfl) (by kernel_rfl) (fun _ _ _ h => h) (by rfl) ?_ hHeld ?_
          rotate_left
          · (intro w hSw; (try dsimp only at hSw); go_simp; try with_reducible rfl)
          simp only [Act.put, List.setIfInBounds_toArray, List.set_cons_zero, List.set_cons_succ]
          refine take_yes 8 74 (v := ?_) rfl rfl (by kernel_rfl) (by kernel_rfl) (by kernel_rfl) (fun _ _ _ h => h) (by rfl) ?_ hHeld ?_
          rotate_left
          · (intro w hSw; (try dsimp only at hSw); go_simp; try with_reducible rfl)
          simp only [Act.put, List.setIfInBounds_toArray, List.set_cons_zero, List.set_cons_succ]
          refine take_yes 9 75 (v := ?_) rfl rfl (by kernel_rfl) (by kernel_rfl) (by kernel_rfl) (fun _ _ _ h => h) (by rfl) ?_ hHeld ?_
          rotate_left
          · (intro w hSw; (try dsimp only at hSw); go_simp; try with_reducible rfl)
          simp only [Act.put, List.setIfInBounds_toArray, List.set_cons_zero, List.set_cons_succ]
          refine take_yes 10 76 (v := ?_) rfl rfl (by kernel_rfl) (by kernel_rfl) (by kernel_rfl) (fun _ _ _ h => h) (by rfl) ?_ hHeld ?_
          rotate_left
          · (intro w hSw; (try dsimp only at hSw); go_simp; try with_reducible rfl)
          simp only [Act.put, List.setIfInBounds_toArray, List.set_cons_zero, List.set_cons_succ]
          refine take_yes 11 77 (v := ?_) rfl rfl (by kernel_rfl) (by kernel_rfl) (by kernel_rfl) (fun _ _ _ h => h) (by rfl) ?_ hHeld ?_
          rotate_left
          · (intro w hSw; (try dsimp only at hSw); go_simp; try with_reducible rfl)
          simp only [Act.put, List.setIfInBounds_toArray, List.set_cons_zero, List.set_cons_succ]
          refine take_yes 12 78 (v := ?_) rfl rfl (by kernel_rfl) (by kernel_rfl) (by kernel_rfl) (fun _ _ _ h => h) (by rfl) ?_ hHeld ?_
          rotate_left
          · (intro w hSw; (try dsimp only at hSw); go_simp; try with_reducible rfl)
          simp only [Act.put, List.setIfInBounds_toArray, List.set_cons_zero, List.set_cons_succ]
          refine wpAnyH_ready (rs := [13]) (by kernel_rfl) (by simp) (AllReadyH.cons rfl (fun K hK => ?_) AllReadyH.nil)
          go_simp
          (go_at_call 10; refine (HSm.out _ (Gr.refl w4).drew).mono ?_; rintro e w5 ⟨rfl, hg5⟩; have G5 := Lib.hid ((Gr.refl w4).drew.trans hg5); clear hg5)
          (try go_wp2_with fail)
          refine hK.out _ _ (by first | with_reducible exact hHeld | with_reducible exact HS.out _ G8.out | with_reducible exact HS.out _ G7.out | with_reducible exact HS.out _ G6.out | with_reducible exact HS.out _ G5.out | with_reducible exact HS.out _ (Gr.refl w4).drew) (fun hHeldN => ?_)
          clear hHeld hK K
          have hHeld := hHeldN
          clear hHeldN
          refine take_yes 14 80 (v := ?_) rfl rfl (by kernel_rfl) (by kernel_rfl) (by kernel_rfl) (fun _ _ _ h => h) (by rfl) ?_ hHeld ?_
          rotate_left
          · (intro w hSw; (try dsimp only at hSw); go_simp; try with_reducible rfl)
          simp only [Act.put, List.setIfInBounds_toArray, List.set_cons_zero, List.set_cons_succ]
          refine take_yes 15 81 (v := ?_) rfl rfl (by kernel_rfl) (by kernel_rfl) (by kernel_rfl) (fun _ _ _ h => h) (by rfl) ?_ hHeld ?_
          rotate_left
          · (intro w hSw; (try dsimp only at hSw); go_simp; try with_reducible rfl)
          simp only [Act.put, List.setIfInBounds_toArray, List.set_cons_zero, List.set_cons_succ]
          refine take_yes 16 82 (v := ?_) rfl rfl (by kernel_rfl) (by kernel_rfl) (by kernel_rfl) (fun _ _ _ h => h) (by rfl) ?_ hHeld ?_
          rotate_left
          · (intro w hSw; (try dsimp only at hSw); go_simp; try with_reducible rfl)
          simp only [Act.put, List.setIfInBounds_toArray, List.set_cons_zero, List.set_cons_succ]
          refine take_yes 18 84 (v := ?_) rfl rfl (by kernel_rfl) (by kernel_rfl) (by kernel_rfl) (fun _ _ _ h => h) (by rfl) ?_ hHeld ?_
          rotate_left
          · (intro w hSw; (try dsimp only at hSw); go_simp; try with_reducible rfl)
          simp only [Act.put, List.setIfInBounds_toArray, List.set_cons_zero, List.set_cons_succ]
          refine take_yes 19 85 (v := ?_) rfl rfl (by kernel_rfl) (by kernel_rfl) (by kernel_rfl) (fun _ _ _ h => h) (by rfl) ?_ hHeld ?_
          rotate_left
          · (intro w hSw; (try dsimp only at hSw); go_simp; try with_reducible rfl)
          simp only [Act.put, List.setIfInBounds_toArray, List.set_cons_zero, List.set_cons_succ]
          refine take_yes 20 86 (v := ?_) rfl rfl (by kernel_rfl) (by kernel_rfl) (by kernel_rfl) (fun _ _ _ h => h) (by rfl) ?_ hHeld ?_
          rotate_left
          · (intro w hSw; (try dsimp only at hSw); go_simp; try with_reducible rfl)
          simp only [Act.put, List.setIfInBounds_toArray, List.set_cons_zero, List.set_cons_succ]
          refine take_yes 21 87 (v := ?_) rfl rfl (by kernel_rfl) (by kernel_rfl) (by kernel_rfl) (fun _ _ _ h => h) (by rfl) ?_ hHeld ?_
          rotate_left
          · (intro w hSw; (try dsimp only at hSw); go_simp; try with_reducible rfl)
          simp only [Act.put, List.setIfInBounds_toArray, List.set_cons_zero, List.set_cons_succ]
          refine wpAnyH_ready (rs := [17]) (by kernel_rfl) (by simp) (AllReadyH.cons rfl (fun K hK => ?_) AllReadyH.nil)
          go_simp
          (go_at_call 12; refine (HI.out _ G5.out).mono ?_; rintro e w6 ⟨ia, ic, rfl, hrow, _, hg6⟩; have G6 := Lib.hid (G5.out.trans hg6); have HRow := Lib.hid hrow; clear hg6 hrow)
          (try go_wp2_with fail)
          refine hK.out _ _ (by first | with_reducible exact hHeld | with_reducible exact HS.out _ G8.out | with_reducible exact HS.out _ G7.out | with_reducible exact HS.out _ G6.out | with_reducible exact HS.out _ G5.out | with_reducible exact HS.out _ (Gr.refl w4).drew) (fun hHeldN => ?_)
          clear hHeld hK K
          have hHeld := hHeldN
          clear hHeldN
          refine wpAnyH_ready (rs := [22]) (by kernel_rfl) (by simp) (AllReadyH.cons rfl (fun K hK => ?_) AllReadyH.nil)
          go_simp
          (go_at_call 11; refine (HRs.out _ _ _ HRow.out G6.out).mono ?_; rintro e w7 ⟨rfl, hg7⟩; have G7 := Lib.hid (G6.out.trans hg7); clear hg7)
          (try go_wp2_with fail)
          refine hK.out _ _ (by first | with_reducible exact hHeld | with_reducible exact HS.out _ G8.out | with_reducible exact HS.out _ G7.out | with_reducible exact HS.out _ G6.out | with_reducible exact HS.out _ G5.out | with_reducible exact HS.out _ (Gr.refl w4).drew) (fun hHeldN => ?_)
          clear hHeld hK K
          have hHeld := hHeldN
          clear hHeldN
          refine take_yes 23 89 (v := ?_) rfl rfl (by kernel_rfl) (by kernel_rfl) (by kernel_rfl) (fun _ _ _ h => h) (by rfl) ?_ hHeld ?_
          rotate_left
          · (intro w hSw; (try dsimp only at hSw); go_simp; try with_reducible rfl)
          simp only [Act.put, List.setIfInBounds_toArray, List.set_cons_zero, List.set_cons_succ]
          refine take_yes 24 90 (v := ?_) rfl rfl (by kernel_rfl) (by kernel_rfl) (by kernel_rfl) (fun _ _ _ h => h) (by rfl) ?_ hHeld ?_
          rotate_left
          · (intro w hSw; (try dsimp only at hSw); go_simp; try with_reducible rfl)
          simp only [Act.put, List.setIfInBounds_toArray, List.set_cons_zero, List.set_cons_succ]
          refine wpAnyH_ready (rs := [25]) (by kernel_rfl) (by simp) (AllReadyH.cons rfl (fun K hK => ?_) AllReadyH.nil)
          go_simp
          (go_at_call 5; refine (HA.out _ (HG4.out.trans G7.out)).mono ?_; rintro e w8 ⟨rfl, hg8⟩; have G8 := Lib.hid (G7.out.trans hg8); clear hg8)
          (try go_wp2_with fail)
          refine hK.out _ _ (by first | with_reducible exact hHeld | with_reducible exact HS.out _ G8.out | with_reducible exact HS.out _ G7.out | with_reducible exact HS.out _ G6.out | with_reducible exact HS.out _ G5.out | with_reducible exact HS.out _ (Gr.refl w4).drew) (fun hHeldN => ?_)
          clear hHeld hK K
          have hHeld := hHeldN
          clear hHeldN
          refine take_yes 26 92 (v := ?_) rfl rfl (by kernel_rfl) (by kernel_rfl) (by kernel_rfl) (fun _ _ _ h => h) (by rfl) ?_ hHeld ?_
          rotate_left
          · (intro w hSw; (try dsimp only at hSw); go_simp; try with_reducible rfl)
          simp only [Act.put, List.setIfInBounds_toArray, List.set_cons_zero, List.set_cons_succ]
          refine take_yes 27 4 (v := ?_) rfl rfl (by kernel_rfl) (by kernel_rfl) (by kernel_rfl) (fun _ _ _ h => h) (by rfl) ?_ hHeld ?_
          rotate_left
          · (intro w hSw; (try dsimp only at hSw); go_simp; try with_reducible rfl)
          simp only [Act.put, List.setIfInBounds_toArray, List.set_cons_zero, List.set_cons_succ]
          refine wpAnyH_done (by kernel_rfl) ?_ _
          clear hHeld
          go_wp2
          go_ret
          exact ⟨rfl, HG4.out.trans G8.out⟩

set_option maxRecDepth 100000 in
theorem walReads_lifted (os : Os) (started : os.Started) (H : Type) (enc : TypeId × Value → H) :
    ReturnsInHanded {} Tryz.checked os 3 .any (fun w args => (Rows.walReadsSpec.pre enc Tryz.prog Tryz.f3 [] false w args ∧ laidMetH Tryz.prog laidL w) ∧ sizedMet enc Tryz.prog Tryz.f3 (OpenSpec.ofChange Rows.walReadsSpec) false w args)
      (Rows.walReadsSpec.post enc Tryz.prog Tryz.f3 false true false false) := by
  refine returnsInHanded_of_change_and (C := Tryz.checked) (X := fun w _ => laidMetH Tryz.prog laidL w) (fun _ _ _ hh h => h.of_heap hh) own2 started (by kernel_rfl) Tryz.func3
    (ChangeSpec.witness_shaped (enc := enc) (C := Tryz.checked) (os := os) (X := fun w _ => laidMetH Tryz.prog laidL w) false (World.doorLaid Tryz.prog 400 os) #[.slice none 0 0, .string ⟨#[]⟩] 8 rfl (World.shaped_of_RefB (by kernel_rfl) (by kernel_rfl)) (by kernel_rfl) (by kernel_rfl) (by kernel_rfl) (door_met os _)) ?_
  intro W base args ds gs before hval0 hW _ hsz0 hL _
  have hval : ∀ (j : Nat) t v, Tryz.f3.params[j]? = some t → args[j]? = some v → Value.okWide Tryz.prog W .any base t v := hval0
  have hsz : (DataW.weightsEach Tryz.prog (Tryz.f3.params.toList ++ Rows.walReadsSpec.plain.varTypes Tryz.prog) (ds ++ gs)).all (· ≤ reachBytes) = true := hsz0
  have hW' := hW
  obtain ⟨p, q, hA0, hV, rfl, hfz, hnd⟩ := hW
  have hA : DataW.TrodAll enc Tryz.prog W 0 (fun _ => true) true Tryz.f3.params.toList args.toList ds p := hA0
  rw [Tryz.params3] at hA hval hsz
  obtain ⟨v0, v1, d0, d1, p0, p1, rfl, rfl, rfl, h0, h1⟩ := trodAll_two hA
  obtain ⟨rfl, rfl⟩ := trodVars_none hV
  have k0 := h0
  have lt0 : ∀ x ∈ p0, x.block < W.heap.size := by obtain ⟨m, hm⟩ := k0; exact DataW.trod_lt m _ _ _ hm
  obtain ⟨ad0, cap0, L0, rfl, hL0, hn0, hz0, hc0, hcap0⟩ := open_files16 (hval 0 22 v0 rfl rfl) h0
  obtain ⟨a1, rfl, rfl, rfl, wa1⟩ := open_string Tryz.underlying9 (hval 1 9 v1 rfl rfl) h1
  have hr1 : a1.size ≤ 140737488355328 := by
    have hr := sized_string hsz (j := 1) (t := 9) rfl rfl
    have : a1.data.toList.length = a1.size := by simp
    simp only [reachBytes] at hr
    omega
  clear hA0 hval0
  have hT := tab_of_laid hL
  refine (walReads_walk L0 ad0 cap0 a1 W hT hL0 hn0 (fun f h => (hz0 f h).2.1) hc0 hr1).mono fun e W' ⟨he, hg⟩ => ?_
  subst he
  exact ⟨_, rfl, _, _, _, [], _, [], hW', trodAll_mk1 (shut_bool Tryz.underlying4 _), trodAll_mk2 (Below.trod laidOut2 (by kernel_rfl) (of_decide_eq_true (by kernel_rfl)) k0 hg.below lt0) (shut_string Tryz.underlying9 wa1), rfl, hg.below.frame _, fun h => by cases h⟩

theorem walReads_holds : Rows.WalReadsSaid :=
  OpenClaim.holds_of_wide 3 Tryz.f3 rfl rfl rfl rfl rfl rfl rfl ⟨rfl, rfl, rfl, rfl, rfl⟩ rfl rfl rfl rfl rfl (by kernel_rfl) Tryz.func3 (by kernel_rfl)
    (of_decide_eq_true (by kernel_rfl)) (by unfold Func.isWrapper; first | (rw [if_pos (by decide +kernel)]; kernel_rfl) | (rw [if_neg (by decide +kernel)]; exact ⟨rfl, rfl⟩))
    (fun os started H enc _ => walReads_lifted os started H enc)

theorem walReads_card_holds : Rows.WalReadsCardSaid :=
  Claim7.holds_tied_plain_at .later [] [.data] true (true, "dbba723600e418df5d058b168464600b65fb05c8b833bd36848eb06d190fdb56") false
    walReads_holds (fun _ h => by cases h) (by kernel_rfl) (fun _ h => by cases h) walReads_row_tie rfl ⟨rfl, rfl⟩ (by kernel_rfl) rfl
    (fun f fn hf hfn => by
      obtain rfl : f = 3 := Option.some.inj ((show Tryz.prog.funcNamed "entente/ententelaw17.WalReads" = some 3 by kernel_rfl).symm.trans hf) |>.symm
      obtain rfl : fn = Tryz.f3 := (Option.some.inj (Tryz.func3.symm.trans hfn)).symm
      exact ⟨by kernel_rfl, fun j t ht => by
        rw [Tryz.params3] at ht
        have hm : t ∈ [22, 9] := by simpa using Array.mem_of_getElem? ht
        have hall : ([22, 9].all fun u => !Tryz.prog.wantsStandIn u) = true := by kernel_rfl
        exact (show Tryz.prog.wantsStandIn t = false by simpa using List.all_eq_true.1 hall t hm)⟩)
    (by kernel_rfl)
end Go.Proofs.YtojmhhmpmpbpfaaGreatDoor
