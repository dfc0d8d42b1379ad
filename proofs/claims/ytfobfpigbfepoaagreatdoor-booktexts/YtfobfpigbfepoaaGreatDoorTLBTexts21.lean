/- What the proof is made of, part 21. -/
import Derived.Test.YtfobfpigbfepoaaGreatDoorTLBTexts20
namespace Go.Proofs.YtfobfpigbfepoaaGreatDoor
open Go.RowKit
open Df (Stp ownB askB stpB defB chE wk)
theorem stp_u {s : Stp} (h : stpB s = true) : (s.u = ⟨#[]⟩ → askB s = false) ∧ (s.u ≠ ⟨#[]⟩ → askB s = true) := by
  constructor
  · intro hu
    cases ha : askB s with
    | false => rfl
    | true =>
      have := ((Df.ask_iff s).1 ha).1
      rw [hu] at this
      exact absurd this (by decide)
  · intro hu
    cases ha : askB s with
    | true => rfl
    | false => exact absurd ((Df.own_iff s).1 (own_of h ha)).1 hu
theorem to_list (x : ByteArray) : ∃ l : List UInt8, x = ⟨l.toArray⟩ ∧ x.data.toList = l := ⟨x.data.toList, (Lex.bytes_list x).symm, rfl⟩
set_option maxHeartbeats 8000000 in
set_option maxRecDepth 100000 in
theorem refDShow_any (nm : ByteArray) (L : List Stp) (ad : Option Addr) (cap : Nat) (w : World) (hL : StpsAt w ad L) (hs : nm.size ≤ 9223372036854775807) (hn : L.length ≤ 9223372036854775807) (hz : ∀ s ∈ L, inS s) :
    Calls Tryz.prog 19 #[.agg #[.string nm, .slice ad L.length cap]] w fun e w' => e = .returned (.tuple #[.string (shE nm L), .int .i64 (chE nm L)]) ∧ Gr w w' := by
  have HC : Hid (∀ w', Gr w w' → Calls Tryz.prog 33 #[.agg #[.string nm, .slice ad L.length cap]] w' fun e w2 => e = .returned (.int .i64 (chE nm L)) ∧ Gr w' w2) := fun w' g => refDCheck_any nm L ad cap w' (hL.gr g) hs hn hz
  have HX0 := Lib.hid (TwoAt.new w (.string nm) (.slice ad L.length cap) 38 _ rfl)
  cases hd : defB nm L with
  | false =>
    have e1 : shE nm L = ⟨#[]⟩ := by unfold shE; rw [hd]; rfl
    have e2 : chE nm L = 90 := Df.ch_no hd
    rw [e1, e2]
    rw [e2] at HC
    clear e1 e2 hd hL hz
    go_enter Tryz.func19, Tryz.ntmps19
    go_wp2_with fail
    refine (HC.out _ (by repeat (first | exact Gr.refl _ | refine Gr.alloc ?_ | refine Gr.drew ?_ | refine Gr.trans ?_ (by assumption)))).mono ?_
    rintro e w1 ⟨rfl, hg⟩
    go_wp2
    go_ret2
    exact ⟨rfl, (Gr.refl _).alloc.trans hg⟩
  | true =>
    have e1 : shE nm L = ⟨(shT nm L).toArray⟩ := by unfold shE; rw [hd]; rfl
    have e2 : chE nm L = 0 := Df.ch_yes hd
    rw [e1, e2]
    rw [e2] at HC
    obtain ⟨h1, h2, h8, h4⟩ := (Df.def_iff nm L).1 hd
    have hn16 := name_le h1
    obtain ⟨nl, hnm, hnl⟩ := to_list nm
    have hnll : nl.length ≤ 16 := by rw [← hnl]; simpa using hn16
    have HT : Hid (shT nm L = [115, 97, 103, 97, 32] ++ nl ++ [32, 123, 10] ++ L.flatMap stT ++ [125, 10]) := by show _ = _; unfold shT shH; rw [hnl]; simp
    have HB : Hid (∀ k, k ≤ L.length → ((L.take k).flatMap stT).length ≤ 480) := by
      intro k hk
      have := stTs_len (L.take k) (fun s hs => h4 s (List.mem_of_mem_take hs))
      rw [List.length_take] at this
      omega
    have HL : Hid (StpsAt w ad L) := hL
    have HP : Hid (∀ s ∈ L, stpB s = true) := h4
    have HWo : Hid (∀ w' : World, Calls Tryz.prog 34 #[] w' fun e w2 => e = .returned (.slice (some ⟨w'.heap.size, 0, none⟩) 5 5) ∧ StrsIn w2 w'.heap.size [⟨#[]⟩, Df.wDebit, Df.wCredit, Df.wReserve, Df.wRelease] ∧ w'.heap.size < w2.heap.size ∧ Gr w' w2) := refWords_any
    generalize shT nm L = RT at *
    subst hnm
    have a1 := add_lists [115, 97, 103, 97, 32] nl (by simp; omega)
    have a2 := add_lists ([115, 97, 103, 97, 32] ++ nl) [32, 123, 10] (by simp; omega)
    have hH : ([115, 97, 103, 97, 32] ++ nl ++ [32, 123, 10]).length ≤ 24 := by simp; omega
    generalize hHd : [115, 97, 103, 97, 32] ++ nl ++ [32, 123, 10] = HD at *
    generalize [115, 97, 103, 97, 32] ++ nl = t1 at *
    clear hHd hd hL hz e1 e2 h1 h4 hn16 hnl
    go_enter Tryz.func19, Tryz.ntmps19
    go_wp2_with fail
    refine (HC.out _ (by repeat (first | exact Gr.refl _ | refine Gr.alloc ?_ | refine Gr.drew ?_ | refine Gr.trans ?_ (by assumption)))).mono ?_
    rintro e w1 ⟨rfl, hg⟩
    have HG1 : Hid (Gr w w1) := (Gr.refl _).alloc.trans hg
    have HX1 := Lib.hid (HX0.out.gr hg)
    obtain ⟨x0, x1, _, _, xl⟩ := HX1.out
    clear hg
    go_wp2
    go_loopw [4, 5] (fun sv iv wr => ∃ k : Nat, k ≤ L.length ∧ iv = .int .i64 (k : Int) ∧ sv = .string ⟨(HD ++ (L.take k).flatMap stT).toArray⟩ ∧ TwoAt wr w.heap.size (.string ⟨nl.toArray⟩) (.slice ad L.length cap) ∧ Gr w wr) (fun _ iv _ => L.length - (intOf iv).toNat)
    case atStart => exact ⟨0, by omega, rfl, by simp, HX1.out, HG1.out⟩
    case round =>
      obtain ⟨k, hk, rfl, rfl, hx, hg⟩ := hrel
      have HG : Hid (Gr w wr) := hg
      have HXw := Lib.hid hx
      clear hg x0 x1 xl
      obtain ⟨x0, x1, _, _, xl⟩ := hx
      have hbk := HB.out k hk
      by_cases hlt : k < L.length
      · obtain ⟨b, off, rfl, hb, c0, c1, c2, c3, c4, c5, c6⟩ := StpsAt.at (HL.out.gr HG.out) k hlt
        have hst := HP.out _ (List.getElem_mem hlt)
        have hFT : (L.take (k + 1)).flatMap stT = (L.take k).flatMap stT ++ stT L[k] := stT_take L k hlt
        have ho : (HD ++ (L.take k).flatMap stT).length ≤ 504 := by rw [List.length_append]; omega
        have HFT : Hid (HD ++ (L.take (k + 1)).flatMap stT = HD ++ (L.take k).flatMap stT ++ stT L[k]) := by show _ = _; rw [hFT, List.append_assoc]
        generalize hTn : HD ++ (L.take (k + 1)).flatMap stT = tn at *
        have HTn := Lib.hid hTn
        clear hTn
        generalize HD ++ (L.take k).flatMap stT = t0 at *
        obtain ⟨q1, q2⟩ := stp_u hst
        generalize L[k] = s at *
        have HB0 := Lib.hid (AccAt.new wr (.int .i64 s.k) (.string s.a) (.int .i64 s.n) (.int .i64 s.o) (.string s.u) (.int .i64 s.y) (.int .i64 s.v) 78 _ rfl)
        have ht := text_eq s.u []
        rw [show (⟨[].toArray⟩ : ByteArray) = ⟨#[]⟩ from rfl] at ht
        clear a1 a2 hbk hFT
        by_cases hu : s.u = ⟨#[]⟩
        · rw [decide_eq_true hu] at ht
          have hk' := q1 hu
          have how := own_of hst hk'
          have hq := (Df.own_iff s).1 how
          have ab := hq.2.1
          have y1 := hq.2.2.2.2.1
          have y2 := hq.2.2.2.2.2
          have hk1 := ((Act.act_iff s.k s.a s.n).1 ab).1.1
          have hk4 := ((Act.act_iff s.k s.a s.n).1 ab).1.2
          have nb := ((Act.act_iff s.k s.a s.n).1 ab).2.1
          have n1 := ((Act.act_iff s.k s.a s.n).1 ab).2.2.1
          have n2 := ((Act.act_iff s.k s.a s.n).1 ab).2.2.2
          have HAm : Hid (∀ w', Calls Tryz.prog 35 #[.int .i64 s.n] w' fun e w2 => e = .returned (.string (dg s.n)) ∧ w2 = w') := fun w' => amount_any s.n w' (by omega) (by omega)
          have HDi : Hid (∀ w', Calls Tryz.prog 36 #[.int .i64 s.y] w' fun e w2 => e = .returned (.string (dg s.y)) ∧ w2 = w') := fun w' => refDg_any s.y w' (by omega) (by omega)
          have z1 := dg_size s.n 15 (by omega)
          have z2 := dg_size s.y 1 (by omega)
          have z3 := name_le nb
          have z4 := (wk_name s.k hk1 hk4).2.2.2
          have hsT : stT s = 32 :: 32 :: ((wk s.k).data.toList ++ 32 :: (s.a.data.toList ++ 32 :: ((dg s.n).data.toList ++ 32 :: (Df.wTries.data.toList ++ 32 :: ((dg s.y).data.toList ++ [59, 10]))))) := by unfold stT stW; rw [hk', if_neg (by decide)]; rfl
          obtain ⟨kn, hkn⟩ : ∃ kn : Nat, s.k = (kn : Int) := ⟨s.k.toNat, by omega⟩
          obtain ⟨wl, ew, lw⟩ := to_list (wk s.k)
          obtain ⟨al, ea, la⟩ := to_list s.a
          obtain ⟨dl, ed, ld⟩ := to_list (dg s.n)
          obtain ⟨yl, ey, ly⟩ := to_list (dg s.y)
          have HWa : Hid (∀ {w' : World} {g : Nat}, StrsIn w' g [⟨#[]⟩, Df.wDebit, Df.wCredit, Df.wReserve, Df.wRelease] → w'.cell? ⟨g, kn, none⟩ = some (.string ⟨wl.toArray⟩)) := fun h => by
            have := words_at h kn (by omega) (by omega)
            rw [← hkn, ew] at this
            exact this
          have hsz : wl.length ≤ 7 ∧ al.length ≤ 16 ∧ dl.length ≤ 16 ∧ yl.length ≤ 2 := by
            rw [← lw, ← la, ← ld, ← ly]
            simp only [Array.length_toList, ByteArray.size_data]
            omega
          rw [lw, la, ld, ly] at hsT
          rw [ed] at HAm
          rw [ey] at HDi
          rw [hkn, ea] at HB0
          rw [hkn] at c0
          rw [ea] at c1
          have b1 := add_lists t0 [32, 32] (by simp only [List.length_cons, List.length_nil]; omega)
          have b2 := add_lists (t0 ++ [32, 32]) wl (by simp only [List.length_append, List.length_cons, List.length_nil]; omega)
          have b3 := add_lists (t0 ++ [32, 32] ++ wl) [32] (by simp only [List.length_append, List.length_cons, List.length_nil]; omega)
          have b4 := add_lists (t0 ++ [32, 32] ++ wl ++ [32]) al (by simp only [List.length_append, List.length_cons, List.length_nil]; omega)
          have b5 := add_lists (t0 ++ [32, 32] ++ wl ++ [32] ++ al) [32] (by simp only [List.length_append, List.length_cons, List.length_nil]; omega)
          have b6 := add_lists (t0 ++ [32, 32] ++ wl ++ [32] ++ al ++ [32]) dl (by simp only [List.length_append, List.length_cons, List.length_nil]; omega)
          have b7 := add_lists (t0 ++ [32, 32] ++ wl ++ [32] ++ al ++ [32] ++ dl) [32, 116, 114, 105, 101, 115, 32] (by simp only [List.length_append, List.length_cons, List.length_nil]; omega)
          have b8 := add_lists (t0 ++ [32, 32] ++ wl ++ [32] ++ al ++ [32] ++ dl ++ [32, 116, 114, 105, 101, 115, 32]) yl (by simp only [List.length_append, List.length_cons, List.length_nil]; omega)
          have b9 := add_lists (t0 ++ [32, 32] ++ wl ++ [32] ++ al ++ [32] ++ dl ++ [32, 116, 114, 105, 101, 115, 32] ++ yl) [59, 10] (by simp only [List.length_append, List.length_cons, List.length_nil]; omega)
          have HTN : Hid (tn = t0 ++ [32, 32] ++ wl ++ [32] ++ al ++ [32] ++ dl ++ [32, 116, 114, 105, 101, 115, 32] ++ yl ++ [59, 10]) := by show _ = _; rw [HFT.out, hsT]; simp [Df.wTries]
          generalize t0 ++ [32, 32] ++ wl ++ [32] ++ al ++ [32] ++ dl ++ [32, 116, 114, 105, 101, 115, 32] ++ yl ++ [59, 10] = s9 at *
          generalize t0 ++ [32, 32] ++ wl ++ [32] ++ al ++ [32] ++ dl ++ [32, 116, 114, 105, 101, 115, 32] ++ yl = s8 at *
          generalize t0 ++ [32, 32] ++ wl ++ [32] ++ al ++ [32] ++ dl ++ [32, 116, 114, 105, 101, 115, 32] = s7 at *
          generalize t0 ++ [32, 32] ++ wl ++ [32] ++ al ++ [32] ++ dl = s6 at *
          generalize t0 ++ [32, 32] ++ wl ++ [32] ++ al ++ [32] = s5 at *
          generalize t0 ++ [32, 32] ++ wl ++ [32] ++ al = s4 at *
          generalize t0 ++ [32, 32] ++ wl ++ [32] = s3 at *
          generalize t0 ++ [32, 32] ++ wl = s2 at *
          generalize t0 ++ [32, 32] = s1 at *
          have hk5 : (kn : Int) < 5 := by omega
          have hk5n : kn < 5 := by omega
          have ht2 : (s.u.toList == []) = true := ht
          clear ht q1 q2 hu hk' how hq ab y1 y2 hk1 hk4 nb n1 n2 z1 z2 z3 z4 hsT ew lw la ld ly hsz ed ey hst hkn ea ho
          generalize s.n = n2 at *
          generalize s.o = n3 at *
          generalize s.u = n4 at *
          generalize s.y = n5 at *
          generalize s.v = n6 at *
          go_upto_region 9 with fail
          obtain ⟨d0, d1, d2, d3, d4, d5, d6⟩ := HB0.out.cells
          have dl0 := HB0.out.lt
          refine wp_region_held_drew (S := (fun w' => Gr (wr.alloc (.cells #[.int .i64 (kn : Int), .string ⟨al.toArray⟩, .int .i64 n2, .int .i64 n3, .string n4, .int .i64 n5, .int .i64 n6] 78)) w' ∧ w'.cell? ⟨wr.heap.size, 0, none⟩ = some (.int .i64 (kn : Int)) ∧ w'.cell? ⟨wr.heap.size, 1, none⟩ = some (.string ⟨al.toArray⟩) ∧ w'.cell? ⟨wr.heap.size, 2, none⟩ = some (.int .i64 n2) ∧ w'.cell? ⟨wr.heap.size, 3, none⟩ = some (.int .i64 n3) ∧ w'.cell? ⟨wr.heap.size, 4, none⟩ = some (.string n4) ∧ w'.cell? ⟨wr.heap.size, 5, none⟩ = some (.int .i64 n5) ∧ w'.cell? ⟨wr.heap.size, 6, none⟩ = some (.int .i64 n6))) (by kernel_rfl) (by exact holdW HB0.out (by (repeat' (first | with_reducible exact Gr.refl _ | with_reducible refine Gr.set ?_ _ ?_ _ | with_reducible refine Gr.alloc ?_ | with_reducible refine Gr.drew ?_ | with_reducible refine Gr.trans ?_ (by assumption))) <;> (first | (simp; done) | (simp; omega) | omega))) (fun hHeld => ?_)
          refine take_yes 0 29 (v := ?_) rfl rfl (by kernel_rfl) (by kernel_rfl) (by kernel_rfl) (fun _ _ _ h => h) (by rfl) ?_ hHeld ?_
          rotate_left
          · (intro w hSw; (try dsimp only at hSw); go_simp; try with_reducible rfl)
          simp only [Act.put, List.setIfInBounds_toArray, List.set_cons_zero, List.set_cons_succ]
          refine take_yes 1 30 (v := ?_) rfl rfl (by kernel_rfl) (by kernel_rfl) (by kernel_rfl) (fun _ _ _ h => h) (by rfl) ?_ hHeld ?_
          rotate_left
          · (intro w hSw; (try dsimp only at hSw); go_simp; try with_reducible rfl)
          simp only [Act.put, List.setIfInBounds_toArray, List.set_cons_zero, List.set_cons_succ]
          refine take_yes 3 32 (v := ?_) rfl rfl (by kernel_rfl) (by kernel_rfl) (by kernel_rfl) (fun _ _ _ h => h) (by rfl) ?_ hHeld ?_
          rotate_left
          · (intro w hSw; (try dsimp only at hSw); go_simp; try with_reducible rfl)
          simp only [Act.put, List.setIfInBounds_toArray, List.set_cons_zero, List.set_cons_succ]
          refine take_yes 4 33 (v := ?_) rfl rfl (by kernel_rfl) (by kernel_rfl) (by kernel_rfl) (fun _ _ _ h => h) (by rfl) ?_ hHeld ?_
          rotate_left
          · (intro w hSw; (try dsimp only at hSw); go_simp; try with_reducible rfl)
          simp only [Act.put, List.setIfInBounds_toArray, List.set_cons_zero, List.set_cons_succ]
          refine take_yes 5 34 (v := ?_) rfl rfl (by kernel_rfl) (by kernel_rfl) (by kernel_rfl) (fun _ _ _ h => h) (by rfl) ?_ hHeld ?_
          rotate_left
          · (intro w hSw; (try dsimp only at hSw); go_simp; try with_reducible rfl)
          simp only [Act.put, List.setIfInBounds_toArray, List.set_cons_zero, List.set_cons_succ]
          refine take_yes 10 39 (v := ?_) rfl rfl (by kernel_rfl) (by kernel_rfl) (by kernel_rfl) (fun _ _ _ h => h) (by rfl) ?_ hHeld ?_
          rotate_left
          · (intro w hSw; (try dsimp only at hSw); go_simp; try with_reducible rfl)
          simp only [Act.put, List.setIfInBounds_toArray, List.set_cons_zero, List.set_cons_succ]
          refine take_yes 11 40 (v := ?_) rfl rfl (by kernel_rfl) (by kernel_rfl) (by kernel_rfl) (fun _ _ _ h => h) (by rfl) ?_ hHeld ?_
          rotate_left
          · (intro w hSw; (try dsimp only at hSw); go_simp; try with_reducible rfl)
          simp only [Act.put, List.setIfInBounds_toArray, List.set_cons_zero, List.set_cons_succ]
          refine take_yes 12 41 (v := ?_) rfl rfl (by kernel_rfl) (by kernel_rfl) (by kernel_rfl) (fun _ _ _ h => h) (by rfl) ?_ hHeld ?_
          rotate_left
          · (intro w hSw; (try dsimp only at hSw); go_simp; try with_reducible rfl)
          simp only [Act.put, List.setIfInBounds_toArray, List.set_cons_zero, List.set_cons_succ]
          refine take_yes 15 44 (v := ?_) rfl rfl (by kernel_rfl) (by kernel_rfl) (by kernel_rfl) (fun _ _ _ h => h) (by rfl) ?_ hHeld ?_
          rotate_left
          · (intro w hSw; (try dsimp only at hSw); go_simp; try with_reducible rfl)
          simp only [Act.put, List.setIfInBounds_toArray, List.set_cons_zero, List.set_cons_succ]
          refine take_yes 16 45 (v := ?_) rfl rfl (by kernel_rfl) (by kernel_rfl) (by kernel_rfl) (fun _ _ _ h => h) (by rfl) ?_ hHeld ?_
          rotate_left
          · (intro w hSw; (try dsimp only at hSw); go_simp; try with_reducible rfl)
          simp only [Act.put, List.setIfInBounds_toArray, List.set_cons_zero, List.set_cons_succ]
          refine take_yes 17 46 (v := ?_) rfl rfl (by kernel_rfl) (by kernel_rfl) (by kernel_rfl) (fun _ _ _ h => h) (by rfl) ?_ hHeld ?_
          rotate_left
          · (intro w hSw; (try dsimp only at hSw); go_simp; try with_reducible rfl)
          simp only [Act.put, List.setIfInBounds_toArray, List.set_cons_zero, List.set_cons_succ]
          refine take_yes 21 50 (v := ?_) rfl rfl (by kernel_rfl) (by kernel_rfl) (by kernel_rfl) (fun _ _ _ h => h) (by rfl) ?_ hHeld ?_
          rotate_left
          · (intro w hSw; (try dsimp only at hSw); go_simp; try with_reducible rfl)
          simp only [Act.put, List.setIfInBounds_toArray, List.set_cons_zero, List.set_cons_succ]
          refine take_yes 22 51 (v := ?_) rfl rfl (by kernel_rfl) (by kernel_rfl) (by kernel_rfl) (fun _ _ _ h => h) (by rfl) ?_ hHeld ?_
          rotate_left
          · (intro w hSw; (try dsimp only at hSw); go_simp; try with_reducible rfl)
          simp only [Act.put, List.setIfInBounds_toArray, List.set_cons_zero, List.set_cons_succ]
          refine wpAnyH_ready (rs := [2]) (by kernel_rfl) (by simp) (AllReadyH.cons rfl (fun K hK => ?_) AllReadyH.nil)
          go_simp
          refine (HWo.out _).mono ?_; rintro e wA ⟨rfl, hst, hltA, hgA⟩
          (try go_wp2_with fail)
          refine hK.out _ _ (by exact holdW HB0.out (by (repeat' (first | with_reducible exact Gr.refl _ | with_reducible refine Gr.set ?_ _ ?_ _ | with_reducible refine Gr.alloc ?_ | with_reducible refine Gr.drew ?_ | with_reducible refine Gr.trans ?_ (by assumption))) <;> (first | (simp; done) | (simp; omega) | omega))) (fun hHeldN => ?_)
          clear hHeld hK K
          have hHeld := hHeldN
          clear hHeldN
          have hwa : wA.cell? ⟨wr.heap.size + 1, kn, none⟩ = some (.string ⟨wl.toArray⟩) := by have := HWa.out hst; simpa using this
          have HGA : Hid (Gr (wr.alloc (.cells #[.int .i64 (kn : Int), .string ⟨al.toArray⟩, .int .i64 n2, .int .i64 n3, .string n4, .int .i64 n5, .int .i64 n6] 78)) wA) := hHeld.1
          clear hst
          refine wpAnyH_more (S2 := (fun w' => (Gr (wr.alloc (.cells #[.int .i64 (kn : Int), .string ⟨al.toArray⟩, .int .i64 n2, .int .i64 n3, .string n4, .int .i64 n5, .int .i64 n6] 78)) w' ∧ w'.cell? ⟨wr.heap.size, 0, none⟩ = some (.int .i64 (kn : Int)) ∧ w'.cell? ⟨wr.heap.size, 1, none⟩ = some (.string ⟨al.toArray⟩) ∧ w'.cell? ⟨wr.heap.size, 2, none⟩ = some (.int .i64 n2) ∧ w'.cell? ⟨wr.heap.size, 3, none⟩ = some (.int .i64 n3) ∧ w'.cell? ⟨wr.heap.size, 4, none⟩ = some (.string n4) ∧ w'.cell? ⟨wr.heap.size, 5, none⟩ = some (.int .i64 n5) ∧ w'.cell? ⟨wr.heap.size, 6, none⟩ = some (.int .i64 n6)) ∧ Gr wA w' ∧ w'.cell? ⟨wr.heap.size + 1, kn, none⟩ = some (.string ⟨wl.toArray⟩))) (by exact fun w' h => h.1) _ _ _ _ ?_
          replace hHeld : ((fun w' => (Gr (wr.alloc (.cells #[.int .i64 (kn : Int), .string ⟨al.toArray⟩, .int .i64 n2, .int .i64 n3, .string n4, .int .i64 n5, .int .i64 n6] 78)) w' ∧ w'.cell? ⟨wr.heap.size, 0, none⟩ = some (.int .i64 (kn : Int)) ∧ w'.cell? ⟨wr.heap.size, 1, none⟩ = some (.string ⟨al.toArray⟩) ∧ w'.cell? ⟨wr.heap.size, 2, none⟩ = some (.int .i64 n2) ∧ w'.cell? ⟨wr.heap.size, 3, none⟩ = some (.int .i64 n3) ∧ w'.cell? ⟨wr.heap.size, 4, none⟩ = some (.string n4) ∧ w'.cell? ⟨wr.heap.size, 5, none⟩ = some (.int .i64 n5) ∧ w'.cell? ⟨wr.heap.size, 6, none⟩ = some (.int .i64 n6)) ∧ Gr wA w' ∧ w'.cell? ⟨wr.heap.size + 1, kn, none⟩ = some (.string ⟨wl.toArray⟩))) wA := by exact holdW2 HB0.out HGA.out hwa (Gr.refl _)
          refine take_yes 6 35 (v := ?_) rfl rfl (by kernel_rfl) (by kernel_rfl) (by kernel_rfl) (fun _ _ _ h => h) (by rfl) ?_ hHeld ?_
          rotate_left
          · (intro w hSw; (try dsimp only at hSw); go_simp; try with_reducible rfl)
          simp only [Act.put, List.setIfInBounds_toArray, List.set_cons_zero, List.set_cons_succ]
          refine take_yes 7 36 (v := ?_) rfl rfl (by kernel_rfl) (by kernel_rfl) (by kernel_rfl) (fun _ _ _ h => h) (by rfl) ?_ hHeld ?_
          rotate_left
          · (intro w hSw; (try dsimp only at hSw); go_simp; try with_reducible rfl)
          simp only [Act.put, List.setIfInBounds_toArray, List.set_cons_zero, List.set_cons_succ]
          refine take_yes 8 37 (v := ?_) rfl rfl (by kernel_rfl) (by kernel_rfl) (by kernel_rfl) (fun _ _ _ h => h) (by rfl) ?_ hHeld ?_
          rotate_left
          · (intro w hSw; (try dsimp only at hSw); go_simp; try with_reducible rfl)
          simp only [Act.put, List.setIfInBounds_toArray, List.set_cons_zero, List.set_cons_succ]
          refine take_yes 9 38 (v := ?_) rfl rfl (by kernel_rfl) (by kernel_rfl) (by kernel_rfl) (fun _ _ _ h => h) (by rfl) ?_ hHeld ?_
          rotate_left
          · (intro w hSw; (try dsimp only at hSw); go_simp; try with_reducible rfl)
          simp only [Act.put, List.setIfInBounds_toArray, List.set_cons_zero, List.set_cons_succ]
          refine take_yes 13 42 (v := ?_) rfl rfl (by kernel_rfl) (by kernel_rfl) (by kernel_rfl) (fun _ _ _ h => h) (by rfl) ?_ hHeld ?_
          rotate_left
          · (intro w hSw; (try dsimp only at hSw); go_simp; try with_reducible rfl)
          simp only [Act.put, List.setIfInBounds_toArray, List.set_cons_zero, List.set_cons_succ]
          refine take_yes 14 43 (v := ?_) rfl rfl (by kernel_rfl) (by kernel_rfl) (by kernel_rfl) (fun _ _ _ h => h) (by rfl) ?_ hHeld ?_
          rotate_left
          · (intro w hSw; (try dsimp only at hSw); go_simp; try with_reducible rfl)
          simp only [Act.put, List.setIfInBounds_toArray, List.set_cons_zero, List.set_cons_succ]
          refine wpAnyH_ready (rs := [18]) (by kernel_rfl) (by simp) (AllReadyH.cons rfl (fun K hK => ?_) AllReadyH.nil)
          go_simp
          refine (HAm.out _).mono ?_; rintro e wB ⟨rfl, hw⟩; obtain rfl := hw.symm
          (try go_wp2_with fail)
          refine hK.out _ _ (by exact holdW2 HB0.out HGA.out hwa (by (repeat' (first | with_reducible exact Gr.refl _ | with_reducible refine Gr.set ?_ _ ?_ _ | with_reducible refine Gr.alloc ?_ | with_reducible refine Gr.drew ?_ | with_reducible refine Gr.trans ?_ (by assumption))) <;> (first | (simp; done) | (simp; omega) | omega))) (fun hHeldN => ?_)
          clear hHeld hK K
          have hHeld := hHeldN
          clear hHeldN
          refine take_yes 19 48 (v := ?_) rfl rfl (by kernel_rfl) (by kernel_rfl) (by kernel_rfl) (fun _ _ _ h => h) (by rfl) ?_ hHeld ?_
          rotate_left
          · (intro w hSw; (try dsimp only at hSw); go_simp; try with_reducible rfl)
          simp only [Act.put, List.setIfInBounds_toArray, List.set_cons_zero, List.set_cons_succ]
          refine take_yes 20 49 (v := ?_) rfl rfl (by kernel_rfl) (by kernel_rfl) (by kernel_rfl) (fun _ _ _ h => h) (by rfl) ?_ hHeld ?_
          rotate_left
          · (intro w hSw; (try dsimp only at hSw); go_simp; try with_reducible rfl)
          simp only [Act.put, List.setIfInBounds_toArray, List.set_cons_zero, List.set_cons_succ]
          refine wpAnyH_ready (rs := [23]) (by kernel_rfl) (by simp) (AllReadyH.cons rfl (fun K hK => ?_) AllReadyH.nil)
          go_simp
          refine (HDi.out _).mono ?_; rintro e wB ⟨rfl, hw⟩; obtain rfl := hw.symm
          (try go_wp2_with fail)
          refine hK.out _ _ (by exact holdW2 HB0.out HGA.out hwa (by (repeat' (first | with_reducible exact Gr.refl _ | with_reducible refine Gr.set ?_ _ ?_ _ | with_reducible refine Gr.alloc ?_ | with_reducible refine Gr.drew ?_ | with_reducible refine Gr.trans ?_ (by assumption))) <;> (first | (simp; done) | (simp; omega) | omega))) (fun hHeldN => ?_)
          clear hHeld hK K
          have hHeld := hHeldN
          clear hHeldN
          refine take_yes 24 53 (v := ?_) rfl rfl (by kernel_rfl) (by kernel_rfl) (by kernel_rfl) (fun _ _ _ h => h) (by rfl) ?_ hHeld ?_
          rotate_left
          · (intro w hSw; (try dsimp only at hSw); go_simp; try with_reducible rfl)
          simp only [Act.put, List.setIfInBounds_toArray, List.set_cons_zero, List.set_cons_succ]
          refine take_yes 25 54 (v := ?_) rfl rfl (by kernel_rfl) (by kernel_rfl) (by kernel_rfl) (fun _ _ _ h => h) (by rfl) ?_ hHeld ?_
          rotate_left
          · (intro w hSw; (try dsimp only at hSw); go_simp; try with_reducible rfl)
          simp only [Act.put, List.setIfInBounds_toArray, List.set_cons_zero, List.set_cons_succ]
          refine take_yes 26 4 (v := ?_) rfl rfl (by kernel_rfl) (by kernel_rfl) (by kernel_rfl) (fun _ _ _ h => h) (by rfl) ?_ hHeld ?_
          rotate_left
          · (intro w hSw; (try dsimp only at hSw); go_simp; try with_reducible rfl)
          simp only [Act.put, List.setIfInBounds_toArray, List.set_cons_zero, List.set_cons_succ]
          refine wpAnyH_done (by kernel_rfl) ?_ _
          go_wp2
          go_roundw
          case rel => exact ⟨k + 1, by omega, by go_num, by rw [HTn.out, HTN.out], (HXw.out.gr (Gr.refl _).alloc).gr HGA.out, HG.out.alloc.trans HGA.out⟩
          case measure => simp [intOf]; omega
        · rw [decide_eq_false hu] at ht
          have hk' := q2 hu
          have hq := (Df.ask_iff s).1 hk'
          have nb := hq.1
          have o1 := hq.2.2.2.2.2.1
          have o2 := hq.2.2.2.2.2.2.1
          have v1 := hq.2.2.2.2.2.2.2.1
          have v2 := hq.2.2.2.2.2.2.2.2
          have HAm : Hid (∀ w', Calls Tryz.prog 36 #[.int .i64 s.o] w' fun e w2 => e = .returned (.string (dg s.o)) ∧ w2 = w') := fun w' => refDg_any s.o w' (by omega) (by omega)
          have HDi : Hid (∀ w', Calls Tryz.prog 36 #[.int .i64 s.v] w' fun e w2 => e = .returned (.string (dg s.v)) ∧ w2 = w') := fun w' => refDg_any s.v w' (by omega) (by omega)
          have z1 := dg_size s.o 1 (by omega)
          have z2 := dg_size s.v 1 (by omega)
          have z3 := name_le nb
          have hsT : stT s = 32 :: 32 :: (Df.wAsk.data.toList ++ 32 :: ((dg s.o).data.toList ++ 32 :: (s.u.data.toList ++ 32 :: (Df.wWait.data.toList ++ 32 :: ((dg s.v).data.toList ++ [59, 10]))))) := by unfold stT stW; rw [hk', if_pos rfl]; rfl
          obtain ⟨al, ea, la⟩ := to_list s.u
          obtain ⟨dl, ed, ld⟩ := to_list (dg s.o)
          obtain ⟨yl, ey, ly⟩ := to_list (dg s.v)
          have hsz : al.length ≤ 16 ∧ dl.length ≤ 2 ∧ yl.length ≤ 2 := by
            rw [← la, ← ld, ← ly]
            simp only [Array.length_toList, ByteArray.size_data]
            omega
          rw [la, ld, ly] at hsT
          rw [ed] at HAm
          rw [ey] at HDi
          have ht2 : (s.u.toList == []) = false := ht
          have hal : al ≠ [] := fun e => hu (by rw [ea, e])
          have hal2 : (al == []) = false := by simpa using hal
          rw [ea] at HB0 c4 ht2
          have b1 := add_lists t0 [32, 32, 97, 115, 107, 32] (by simp only [List.length_cons, List.length_nil]; omega)
          have b2 := add_lists (t0 ++ [32, 32, 97, 115, 107, 32]) dl (by simp only [List.length_append, List.length_cons, List.length_nil]; omega)
          have b3 := add_lists (t0 ++ [32, 32, 97, 115, 107, 32] ++ dl) [32] (by simp only [List.length_append, List.length_cons, List.length_nil]; omega)
          have b4 := add_lists (t0 ++ [32, 32, 97, 115, 107, 32] ++ dl ++ [32]) al (by simp only [List.length_append, List.length_cons, List.length_nil]; omega)
          have b5 := add_lists (t0 ++ [32, 32, 97, 115, 107, 32] ++ dl ++ [32] ++ al) [32, 119, 97, 105, 116, 32] (by simp only [List.length_append, List.length_cons, List.length_nil]; omega)
          have b6 := add_lists (t0 ++ [32, 32, 97, 115, 107, 32] ++ dl ++ [32] ++ al ++ [32, 119, 97, 105, 116, 32]) yl (by simp only [List.length_append, List.length_cons, List.length_nil]; omega)
          have b7 := add_lists (t0 ++ [32, 32, 97, 115, 107, 32] ++ dl ++ [32] ++ al ++ [32, 119, 97, 105, 116, 32] ++ yl) [59, 10] (by simp only [List.length_append, List.length_cons, List.length_nil]; omega)
          have HTN : Hid (tn = t0 ++ [32, 32, 97, 115, 107, 32] ++ dl ++ [32] ++ al ++ [32, 119, 97, 105, 116, 32] ++ yl ++ [59, 10]) := by show _ = _; rw [HFT.out, hsT]; simp [Df.wAsk, Df.wWait]
          generalize t0 ++ [32, 32, 97, 115, 107, 32] ++ dl ++ [32] ++ al ++ [32, 119, 97, 105, 116, 32] ++ yl ++ [59, 10] = s7 at *
          generalize t0 ++ [32, 32, 97, 115, 107, 32] ++ dl ++ [32] ++ al ++ [32, 119, 97, 105, 116, 32] ++ yl = s6 at *
          generalize t0 ++ [32, 32, 97, 115, 107, 32] ++ dl ++ [32] ++ al ++ [32, 119, 97, 105, 116, 32] = s5 at *
          generalize t0 ++ [32, 32, 97, 115, 107, 32] ++ dl ++ [32] ++ al = s4 at *
          generalize t0 ++ [32, 32, 97, 115, 107, 32] ++ dl ++ [32] = s3 at *
          generalize t0 ++ [32, 32, 97, 115, 107, 32] ++ dl = s2 at *
          generalize t0 ++ [32, 32, 97, 115, 107, 32] = s1 at *
          clear ht q1 q2 hu hk' hq nb o1 o2 v1 v2 z1 z2 z3 hsT la ld ly hsz ed ey hst ea ho
          generalize s.k = n0 at *
          generalize s.a = n1 at *
          generalize s.n = n2 at *
          generalize s.o = n3 at *
          generalize s.y = n5 at *
          generalize s.v = n6 at *
          go_upto_region 10 with fail
          obtain ⟨d0, d1, d2, d3, d4, d5, d6⟩ := HB0.out.cells
          have dl0 := HB0.out.lt
          refine wp_region_held_drew (S := (fun w' => Gr (wr.alloc (.cells #[.int .i64 n0, .string n1, .int .i64 n2, .int .i64 n3, .string ⟨al.toArray⟩, .int .i64 n5, .int .i64 n6] 78)) w' ∧ w'.cell? ⟨wr.heap.size, 0, none⟩ = some (.int .i64 n0) ∧ w'.cell? ⟨wr.heap.size, 1, none⟩ = some (.string n1) ∧ w'.cell? ⟨wr.heap.size, 2, none⟩ = some (.int .i64 n2) ∧ w'.cell? ⟨wr.heap.size, 3, none⟩ = some (.int .i64 n3) ∧ w'.cell? ⟨wr.heap.size, 4, none⟩ = some (.string ⟨al.toArray⟩) ∧ w'.cell? ⟨wr.heap.size, 5, none⟩ = some (.int .i64 n5) ∧ w'.cell? ⟨wr.heap.size, 6, none⟩ = some (.int .i64 n6))) (by kernel_rfl) (by exact holdW HB0.out (by (repeat' (first | with_reducible exact Gr.refl _ | with_reducible refine Gr.set ?_ _ ?_ _ | with_reducible refine Gr.alloc ?_ | with_reducible refine Gr.drew ?_ | with_reducible refine Gr.trans ?_ (by assumption))) <;> (first | (simp; done) | (simp; omega) | omega))) (fun hHeld => ?_)
          refine take_yes 0 55 (v := ?_) rfl rfl (by kernel_rfl) (by kernel_rfl) (by kernel_rfl) (fun _ _ _ h => h) (by rfl) ?_ hHeld ?_
          rotate_left
          · (intro w hSw; (try dsimp only at hSw); go_simp; try with_reducible rfl)
          simp only [Act.put, List.setIfInBounds_toArray, List.set_cons_zero, List.set_cons_succ]
          refine take_yes 1 56 (v := ?_) rfl rfl (by kernel_rfl) (by kernel_rfl) (by kernel_rfl) (fun _ _ _ h => h) (by rfl) ?_ hHeld ?_
          rotate_left
          · (intro w hSw; (try dsimp only at hSw); go_simp; try with_reducible rfl)
          simp only [Act.put, List.setIfInBounds_toArray, List.set_cons_zero, List.set_cons_succ]
          refine take_yes 2 57 (v := ?_) rfl rfl (by kernel_rfl) (by kernel_rfl) (by kernel_rfl) (fun _ _ _ h => h) (by rfl) ?_ hHeld ?_
          rotate_left
          · (intro w hSw; (try dsimp only at hSw); go_simp; try with_reducible rfl)
          simp only [Act.put, List.setIfInBounds_toArray, List.set_cons_zero, List.set_cons_succ]
          refine take_yes 3 58 (v := ?_) rfl rfl (by kernel_rfl) (by kernel_rfl) (by kernel_rfl) (fun _ _ _ h => h) (by rfl) ?_ hHeld ?_
          rotate_left
          · (intro w hSw; (try dsimp only at hSw); go_simp; try with_reducible rfl)
          simp only [Act.put, List.setIfInBounds_toArray, List.set_cons_zero, List.set_cons_succ]
          refine take_yes 7 62 (v := ?_) rfl rfl (by kernel_rfl) (by kernel_rfl) (by kernel_rfl) (fun _ _ _ h => h) (by rfl) ?_ hHeld ?_
          rotate_left
          · (intro w hSw; (try dsimp only at hSw); go_simp; try with_reducible rfl)
          simp only [Act.put, List.setIfInBounds_toArray, List.set_cons_zero, List.set_cons_succ]
          refine take_yes 8 63 (v := ?_) rfl rfl (by kernel_rfl) (by kernel_rfl) (by kernel_rfl) (fun _ _ _ h => h) (by rfl) ?_ hHeld ?_
          rotate_left
          · (intro w hSw; (try dsimp only at hSw); go_simp; try with_reducible rfl)
          simp only [Act.put, List.setIfInBounds_toArray, List.set_cons_zero, List.set_cons_succ]
          refine take_yes 11 66 (v := ?_) rfl rfl (by kernel_rfl) (by kernel_rfl) (by kernel_rfl) (fun _ _ _ h => h) (by rfl) ?_ hHeld ?_
          rotate_left
          · (intro w hSw; (try dsimp only at hSw); go_simp; try with_reducible rfl)
          simp only [Act.put, List.setIfInBounds_toArray, List.set_cons_zero, List.set_cons_succ]
          refine take_yes 12 67 (v := ?_) rfl rfl (by kernel_rfl) (by kernel_rfl) (by kernel_rfl) (fun _ _ _ h => h) (by rfl) ?_ hHeld ?_
          rotate_left
          · (intro w hSw; (try dsimp only at hSw); go_simp; try with_reducible rfl)
          simp only [Act.put, List.setIfInBounds_toArray, List.set_cons_zero, List.set_cons_succ]
          refine wpAnyH_ready (rs := [4]) (by kernel_rfl) (by simp) (AllReadyH.cons rfl (fun K hK => ?_) AllReadyH.nil)
          go_simp
          refine (HAm.out _).mono ?_; rintro e wB ⟨rfl, hw⟩; obtain rfl := hw.symm
          (try go_wp2_with fail)
          refine hK.out _ _ (by exact holdW HB0.out (by (repeat' (first | with_reducible exact Gr.refl _ | with_reducible refine Gr.set ?_ _ ?_ _ | with_reducible refine Gr.alloc ?_ | with_reducible refine Gr.drew ?_ | with_reducible refine Gr.trans ?_ (by assumption))) <;> (first | (simp; done) | (simp; omega) | omega))) (fun hHeldN => ?_)
          clear hHeld hK K
          have hHeld := hHeldN
          clear hHeldN
          refine take_yes 5 60 (v := ?_) rfl rfl (by kernel_rfl) (by kernel_rfl) (by kernel_rfl) (fun _ _ _ h => h) (by rfl) ?_ hHeld ?_
          rotate_left
          · (intro w hSw; (try dsimp only at hSw); go_simp; try with_reducible rfl)
          simp only [Act.put, List.setIfInBounds_toArray, List.set_cons_zero, List.set_cons_succ]
          refine take_yes 6 61 (v := ?_) rfl rfl (by kernel_rfl) (by kernel_rfl) (by kernel_rfl) (fun _ _ _ h => h) (by rfl) ?_ hHeld ?_
          rotate_left
          · (intro w hSw; (try dsimp only at hSw); go_simp; try with_reducible rfl)
          simp only [Act.put, List.setIfInBounds_toArray, List.set_cons_zero, List.set_cons_succ]
          refine take_yes 9 64 (v := ?_) rfl rfl (by kernel_rfl) (by kernel_rfl) (by kernel_rfl) (fun _ _ _ h => h) (by rfl) ?_ hHeld ?_
          rotate_left
          · (intro w hSw; (try dsimp only at hSw); go_simp; try with_reducible rfl)
          simp only [Act.put, List.setIfInBounds_toArray, List.set_cons_zero, List.set_cons_succ]
          refine take_yes 10 65 (v := ?_) rfl rfl (by kernel_rfl) (by kernel_rfl) (by kernel_rfl) (fun _ _ _ h => h) (by rfl) ?_ hHeld ?_
          rotate_left
          · (intro w hSw; (try dsimp only at hSw); go_simp; try with_reducible rfl)
          simp only [Act.put, List.setIfInBounds_toArray, List.set_cons_zero, List.set_cons_succ]
          refine wpAnyH_ready (rs := [13]) (by kernel_rfl) (by simp) (AllReadyH.cons rfl (fun K hK => ?_) AllReadyH.nil)
          go_simp
          refine (HDi.out _).mono ?_; rintro e wB ⟨rfl, hw⟩; obtain rfl := hw.symm
          (try go_wp2_with fail)
          refine hK.out _ _ (by exact holdW HB0.out (by (repeat' (first | with_reducible exact Gr.refl _ | with_reducible refine Gr.set ?_ _ ?_ _ | with_reducible refine Gr.alloc ?_ | with_reducible refine Gr.drew ?_ | with_reducible refine Gr.trans ?_ (by assumption))) <;> (first | (simp; done) | (simp; omega) | omega))) (fun hHeldN => ?_)
          clear hHeld hK K
          have hHeld := hHeldN
          clear hHeldN
          refine take_yes 14 69 (v := ?_) rfl rfl (by kernel_rfl) (by kernel_rfl) (by kernel_rfl) (fun _ _ _ h => h) (by rfl) ?_ hHeld ?_
          rotate_left
          · (intro w hSw; (try dsimp only at hSw); go_simp; try with_reducible rfl)
          simp only [Act.put, List.setIfInBounds_toArray, List.set_cons_zero, List.set_cons_succ]
          refine take_yes 15 70 (v := ?_) rfl rfl (by kernel_rfl) (by kernel_rfl) (by kernel_rfl) (fun _ _ _ h => h) (by rfl) ?_ hHeld ?_
          rotate_left
          · (intro w hSw; (try dsimp only at hSw); go_simp; try with_reducible rfl)
          simp only [Act.put, List.setIfInBounds_toArray, List.set_cons_zero, List.set_cons_succ]
          refine take_yes 16 4 (v := ?_) rfl rfl (by kernel_rfl) (by kernel_rfl) (by kernel_rfl) (fun _ _ _ h => h) (by rfl) ?_ hHeld ?_
          rotate_left
          · (intro w hSw; (try dsimp only at hSw); go_simp; try with_reducible rfl)
          simp only [Act.put, List.setIfInBounds_toArray, List.set_cons_zero, List.set_cons_succ]
          refine wpAnyH_done (by kernel_rfl) ?_ _
          have HGA := Lib.hid hHeld.1
          go_wp2
          go_roundw
          case rel => exact ⟨k + 1, by omega, by go_num, by rw [HTn.out, HTN.out], (HXw.out.gr (Gr.refl _).alloc).gr HGA.out, HG.out.alloc.trans HGA.out⟩
          case measure => simp [intOf]; omega
      · obtain rfl : k = L.length := by omega
        rw [List.take_length]
        rw [List.take_length] at hbk
        have a6 := add_lists (HD ++ L.flatMap stT) [125, 10] (by simp only [List.length_append, List.length_cons, List.length_nil] at hH ⊢; omega)
        have HTT : Hid (RT = HD ++ L.flatMap stT ++ [125, 10]) := HT.out
        generalize HD ++ L.flatMap stT ++ [125, 10] = t7 at *
        generalize HD ++ L.flatMap stT = t6 at *
        go_wp2
        go_ret2
        exact ⟨by rw [HTT.out]; rfl, HG.out⟩
end Go.Proofs.YtfobfpigbfepoaaGreatDoor
namespace Go.Proofs.YtfobfpigbfepoaaGreatDoor
open Go.RowKit
set_option maxHeartbeats 4000000 in
set_option maxRecDepth 100000 in
theorem refShow10_any (D : List Dm) (ad : Option Addr) (cap : Nat) (w : World) (hB : BkAt w ad D) (hn : D.length ≤ 9223372036854775807) :
    Calls Tryz.prog 7 #[.slice ad D.length cap] w fun e w' => e = .returned (.tuple #[.string (bsT (dns D)), .int .i64 (bsZ (dns D))]) ∧ Gr w w' := by
  have HMa : Hid (∀ w', Gr w w' → Calls Tryz.prog 18 #[.slice ad D.length cap] w' fun e w2 => e = .returned (.int .i64 (Bk.mayE (dns D))) ∧ Gr w' w2) := fun w' g => refMay_any D ad cap w' (hB.gr g) hn
  cases hmay : Bk.mayB (dns D) with
  | false =>
    have HZ : Hid (bsZ (dns D) = 2) := by show _ = _; unfold bsZ; rw [hmay]; rfl
    have HT : Hid (bsT (dns D) = ⟨#[]⟩) := by show _ = _; unfold bsT; rw [HZ.out]; rfl
    rw [Bk.may_not hmay] at HMa
    clear hmay hB
    go_enter Tryz.func7, Tryz.ntmps7
    go_wp2_with fail
    refine (HMa.out _ (by repeat (first | exact Gr.refl _ | refine Gr.alloc ?_ | refine Gr.drew ?_ | refine Gr.trans ?_ (by assumption)))).mono ?_
    rintro e w1 ⟨rfl, hg1⟩
    go_wp2
    go_ret2
    rw [HZ.out, HT.out]
    exact ⟨rfl, (by (repeat' (first | with_reducible exact Gr.refl _ | with_reducible refine Gr.set ?_ _ ?_ _ | with_reducible refine Gr.alloc ?_ | with_reducible refine Gr.drew ?_ | with_reducible refine Gr.trans ?_ (by assumption))) <;> (first | (simp; done) | (simp; omega) | omega))⟩
  | true =>
    obtain ⟨m1, m2, _⟩ := (Bk.may_iff _).1 hmay
    rw [dns_len] at m1
    have HSh : Hid (∀ (j : Nat) (h : j < D.length) w', Gr w w' → Calls Tryz.prog 19 #[.agg #[.string D[j].nm, .slice D[j].ad D[j].L.length D[j].cap]] w' fun e w2 => e = .returned (.tuple #[.string ⟨(shT D[j].nm D[j].L).toArray⟩, .int .i64 0]) ∧ Gr w' w2) := fun j h w' g => by
      have hok : Df.defB D[j].nm D[j].L = true := m2 D[j].dn (List.mem_map.2 ⟨_, List.getElem_mem h, rfl⟩)
      have hr := hB.rng _ (List.getElem_mem h)
      have := refDShow_any D[j].nm D[j].L D[j].ad D[j].cap w' ((hB.gr g).st _ (List.getElem_mem h)) hr.1 hr.2.1 hr.2.2
      rw [show shE D[j].nm D[j].L = ⟨(shT D[j].nm D[j].L).toArray⟩ by unfold shE; rw [if_pos hok], Df.ch_yes hok] at this
      exact this
    have HLen : Hid (∀ k, (bkT ((dns D).take k)).length ≤ 4800) := by
      intro k
      have := bkT_len ((dns D).take k) (fun d hd => m2 d (List.mem_of_mem_take hd))
      have hl : ((dns D).take k).length ≤ 8 := by rw [List.length_take, dns_len]; omega
      omega
    have HSl : Hid (∀ (j : Nat) (h : j < D.length), (shT D[j].nm D[j].L).length ≤ 600) := fun j h => shT_len (m2 D[j].dn (List.mem_map.2 ⟨_, List.getElem_mem h, rfl⟩))
    have HTk : Hid (∀ (j : Nat) (h : j < D.length), bkT ((dns D).take (j + 1)) = bkT ((dns D).take j) ++ shT D[j].nm D[j].L) := by
      intro j h
      have := bkT_take (dns D) j (by rw [dns_len]; exact h)
      rw [dns_get D j h] at this
      exact this
    have HR := Lib.hid hB.row
    rw [Bk.may_ok hmay] at HMa
    have HZ : Hid (bsZ (dns D) = if 2000 < (bkT (dns D)).length then 3 else 0) := by show _ = _; unfold bsZ; rw [if_pos hmay]
    clear hmay hB m2
    go_enter Tryz.func7, Tryz.ntmps7
    go_wp2_with fail
    refine (HMa.out _ (by repeat (first | exact Gr.refl _ | refine Gr.alloc ?_ | refine Gr.drew ?_ | refine Gr.trans ?_ (by assumption)))).mono ?_
    rintro e w1 ⟨rfl, hg1⟩
    have HG1 : Hid (Gr w w1) := (by repeat (first | exact Gr.refl _ | refine Gr.alloc ?_ | refine Gr.drew ?_ | refine Gr.trans ?_ (by assumption)))
    clear hg1 HMa
    go_wp2
    go_loopw [4, 5] (fun s4 s5 wr => ∃ k : Nat, s5 = .int .i64 k ∧ s4 = .string ⟨(bkT ((dns D).take k)).toArray⟩ ∧ k ≤ D.length ∧ Gr w wr) (fun _ s5 _ => D.length - (intOf s5).toNat)
    case atStart => exact ⟨0, rfl, by rw [List.take_zero]; rfl, Nat.zero_le _, HG1.out⟩
    case round =>
      clear HG1
      obtain ⟨k, rfl, rfl, hk, hg⟩ := hrel
      have HG : Hid (Gr w wr) := hg
      clear hg
      by_cases hlt : k < D.length
      · obtain ⟨b, off, rfl, hb, d0, d1⟩ := DmsAt.at HR.out k hlt
        have d0 := HG.out.keep d0
        have d1 := HG.out.keep d1
        have hbw := Nat.lt_of_lt_of_le hb HG.out.size
        have hki : (k : Int) < (D.length : Int) := by omega
        have HX := Lib.hid (HSh.out k hlt)
        have HT1 := Lib.hid (HTk.out k hlt)
        have hl6 := HSl.out k hlt
        have hl8 := HLen.out k
        generalize D[k] = x at *
        obtain ⟨xn, xa, xc, xl⟩ := x
        dsimp only at *
        generalize shT xn xl = tx at *
        have a5 := add_lists (bkT ((dns D).take k)) tx (by omega)
        rw [← HT1.out] at a5
        generalize bkT ((dns D).take k) = acc at *
        generalize hac2 : bkT ((dns D).take (k + 1)) = acc2 at *
        go_wp2_with fail
        refine (HX.out _ HG.out).mono ?_
        rintro e w2 ⟨rfl, hg2⟩
        have HG2 : Hid (Gr w w2) := HG.out.trans hg2
        clear hg2
        go_wp2
        go_roundw
        case rel => exact ⟨k + 1, by go_num, by rw [hac2], by omega, HG2.out⟩
        case measure => simp [intOf]; omega
      · have hge : ¬ ((k : Int) < (D.length : Int)) := by omega
        have hall : (dns D).take k = dns D := List.take_of_length_le (by rw [dns_len]; omega)
        have hl8 := HLen.out k
        rw [hall] at hl8 ⊢
        have hsz : (⟨(bkT (dns D)).toArray⟩ : ByteArray).size = (bkT (dns D)).length := by show (bkT (dns D)).toArray.size = _; rw [List.size_toArray]
        clear hall HLen HTk HSl HSh
        by_cases hbig : 2000 < (bkT (dns D)).length
        · have HZ3 : Hid (bsZ (dns D) = 3) := by show _ = _; rw [HZ.out, if_pos hbig]
          have HT3 : Hid (bsT (dns D) = ⟨#[]⟩) := by show _ = _; unfold bsT; rw [HZ3.out]; rfl
          have hbi : (2000 : Int) < ((bkT (dns D)).length : Int) := by omega
          clear HZ
          go_wp2
          go_ret2
          rw [HZ3.out, HT3.out]
          exact ⟨rfl, HG.out⟩
        · have HZ3 : Hid (bsZ (dns D) = 0) := by show _ = _; rw [HZ.out, if_neg hbig]
          have HT3 : Hid (bsT (dns D) = ⟨(bkT (dns D)).toArray⟩) := by show _ = _; unfold bsT; rw [HZ3.out]; rfl
          have hbi : ¬ (2000 : Int) < ((bkT (dns D)).length : Int) := by omega
          clear HZ
          go_wp2
          go_ret2
          rw [HZ3.out, HT3.out]
          exact ⟨rfl, HG.out⟩
end Go.Proofs.YtfobfpigbfepoaaGreatDoor
