/- Parts of these proofs, laid together. -/
import Derived.Test.YthaadiclopoamaaGreatDoorGBI
/- The document's Show of definitions: the walk. -/
set_option maxRecDepth 100000
set_option maxHeartbeats 8000000
namespace Go.Proofs.YthaadiclopoamaaGreatDoor
open Go.RowKit
open Df (Stp ownB askB stpB defB chE wk)

theorem stp_u {s : Stp} (h : stpB s = true) : (s.u = ⟨#[]⟩ -> askB s = false) /\ (s.u ≠ ⟨#[]⟩ -> askB s = true) := by
 constructor
 ·intro hu
  cases ha : askB s with
  | false => rfl
  | true =>
   have := ((Df.ask_iff s).1 ha).1
   rw [hu] at this
   exact absurd this (by decide)
 ·intro hu
  cases ha : askB s with
  | true => rfl
  | false => exact absurd ((Df.own_iff s).1 (own_of h ha)).1 hu
theorem to_list (x : ByteArray) : ∃ l : List UInt8, x = ⟨l.toArray⟩ /\ x.data.toList = l := ⟨x.data.toList, (Lex.bytes_list x).symm, rfl⟩

/- one step's line behind what was written -/
theorem refDShow_any (nm : ByteArray) (L : List Stp) (ad : Option Addr) (cap : Nat) (w : World) (hL : StpsAt w ad L) (hs : nm.size <= 9223372036854775807) (hn : L.length <= 9223372036854775807) (hz : ∀ s ∈ L, inS s) :
  Calls Tryz.prog 46 #[.agg #[.string nm, .slice ad L.length cap]] w fun e w' => e = .returned (.tuple #[.string (shE nm L), .int .i64 (chE nm L)]) /\ Gr w w' := by
 have HC : Hid (∀ w', Gr w w' -> Calls Tryz.prog 30 #[.agg #[.string nm, .slice ad L.length cap]] w' fun e w2 => e = .returned (.int .i64 (chE nm L)) /\ Gr w' w2) := fun w' g => refDCheck_any nm L ad cap w' (hL.gr g) hs hn hz
 have HX0 := Lib.hid (TwoAt.new w (.string nm) (.slice ad L.length cap) 27 _ rfl)
 cases hd : defB nm L with
 | false =>
  have e1 : shE nm L = ⟨#[]⟩ := by unfold shE; rw [hd]; rfl
  have e2 : chE nm L = 90 := Df.ch_no hd
  rw [e1, e2]
  rw [e2] at HC
  clear e1 e2 hd hL hz
  go_enter Tryz.func46, Tryz.ntmps46
  go_wp2_with fail
  refine (HC.out _ (by repeat(first|exact Gr.r _|refine Gr.a ?_|refine Gr.d ?_|refine Gr.t ?_ (by assumption)))).mono ?_
  rintro e w1 ⟨rfl, hg⟩
  go_wp2
  go_ret2
  exact ⟨rfl, (Gr.refl _).alloc.trans hg⟩
 | true =>
  have e1 : shE nm L = ⟨(shT nm L).toArray⟩ := by unfold shE; rw [hd]; rfl
  have e2 : chE nm L = 0 := Df.ch_yes hd
  rw [e1, e2]
  rw [e2] at HC
  obtain ⟨h1, h2, h8, h4⟩ := (Df.def_iff nm L).1 hd
  have hn16 := name_le h1
  obtain ⟨nl, hnm, hnl⟩ := to_list nm
  have hnll : nl.length <= 16 := by rw [<- hnl]; simpa using hn16
  have HT : Hid (shT nm L = [115, 97, 103, 97, 32] ++ nl ++ [32, 123, 10] ++ L.flatMap stT ++ [125, 10]) := by show _ = _; unfold shT shH; rw [hnl]; simp
  have HB : Hid (∀ k, k <= L.length -> ((L.take k).flatMap stT).length <= 480) := by
   intro k hk
   have := stTs_len (L.take k) (fun s hs => h4 s (List.mem_of_mem_take hs))
   rw [List.length_take] at this
   omega
  have HL : Hid (StpsAt w ad L) := hL
  have HP : Hid (∀ s ∈ L, stpB s = true) := h4
  have HWo : Hid (∀ w' : World, Calls Tryz.prog 67 #[] w' fun e w2 => e = .returned (.slice (some ⟨w'.heap.size, 0, none⟩) 5 5) /\ StrsIn w2 w'.heap.size [⟨#[]⟩, Df.wDebit, Df.wCredit, Df.wReserve, Df.wRelease] /\ w'.heap.size < w2.heap.size /\ Gr w' w2) := refWords_any
  generalize shT nm L = RT at *
  subst hnm
  have a1 := add_lists [115, 97, 103, 97, 32] nl (by simp; omega)
  have a2 := add_lists ([115, 97, 103, 97, 32] ++ nl) [32, 123, 10] (by simp; omega)
  have hH : ([115, 97, 103, 97, 32] ++ nl ++ [32, 123, 10]).length <= 24 := by simp; omega
  generalize hHd : [115, 97, 103, 97, 32] ++ nl ++ [32, 123, 10] = HD at *
  generalize [115, 97, 103, 97, 32] ++ nl = t1 at *
  clear hHd hd hL hz e1 e2 h1 h4 hn16 hnl
  go_enter Tryz.func46, Tryz.ntmps46
  go_wp2_with fail
  refine (HC.out _ (by repeat(first|exact Gr.r _|refine Gr.a ?_|refine Gr.d ?_|refine Gr.t ?_ (by assumption)))).mono ?_
  rintro e w1 ⟨rfl, hg⟩
  have HG1 : Hid (Gr w w1) := (Gr.refl _).alloc.trans hg
  have HX1 := Lib.hid (HX0.out.gr hg)
  obtain ⟨x0, x1, _, _, xl⟩ := HX1.out
  clear hg
  go_wp2
  go_loopw [4, 5] (fun sv iv wr => ∃ k : Nat, k <= L.length /\ iv = .int .i64 (k : Int) /\ sv = .string ⟨(HD ++ (L.take k).flatMap stT).toArray⟩ /\ TwoAt wr w.heap.size (.string ⟨nl.toArray⟩) (.slice ad L.length cap) /\ Gr w wr) (fun _ iv _ => L.length - (intOf iv).toNat)
  case atStart => exact ⟨0, by omega, rfl, by simp, HX1.out, HG1.out⟩
  case round =>
   obtain ⟨k, hk, rfl, rfl, hx, hg⟩ := hrel
   have HG : Hid (Gr w wr) := hg
   have HXw := Lib.hid hx
   clear hg x0 x1 xl
   obtain ⟨x0, x1, _, _, xl⟩ := hx
   have hbk := HB.out k hk
   by_cases hlt : k < L.length
   ·obtain ⟨b, off, rfl, hb, c0, c1, c2, c3, c4, c5, c6⟩ := StpsAt.at (HL.out.gr HG.out) k hlt
    have hst := HP.out _ (List.getElem_mem hlt)
    have hFT : (L.take (k + 1)).flatMap stT = (L.take k).flatMap stT ++ stT L[k] := stT_take L k hlt
    have ho : (HD ++ (L.take k).flatMap stT).length <= 504 := by rw [List.length_append]; omega
    have HFT : Hid (HD ++ (L.take (k + 1)).flatMap stT = HD ++ (L.take k).flatMap stT ++ stT L[k]) := by show _ = _; rw [hFT, List.append_assoc]
    generalize hTn : HD ++ (L.take (k + 1)).flatMap stT = tn at *
    have HTn := Lib.hid hTn
    clear hTn
    generalize HD ++ (L.take k).flatMap stT = t0 at *
    obtain ⟨q1, q2⟩ := stp_u hst
    generalize L[k] = s at *
    have HB0 := Lib.hid (AccAt.new wr (.int .i64 s.k) (.string s.a) (.int .i64 s.n) (.int .i64 s.o) (.string s.u) (.int .i64 s.y) (.int .i64 s.v) 94 _ rfl)
    have ht := text_eq s.u []
    rw [show (⟨[].toArray⟩ : ByteArray) = ⟨#[]⟩ from rfl] at ht
    clear a1 a2 hbk hFT
    by_cases hu : s.u = ⟨#[]⟩
    ·rw [decide_eq_true hu] at ht
     have hk' := q1 hu
     have how := own_of hst hk'
     have hq := (Df.own_iff s).1 how
     have ab := hq.2.1
     have y1 := hq.2.2.2.2.1
     have y2 := hq.2.2.2.2.2
     have hk1 := ((Act.act_iff s.k s.a s.n).1 ab).1.1
     have hk4 := ((Act.act_iff s.k s.a s.n).1 ab).1.2
     have nb := ((Act.act_iff s.k s.a s.n).1 ab).2.1
     have n1 := ((Act.act_iff s.k s.a s.n).1 ab).2.2.1
     have n2 := ((Act.act_iff s.k s.a s.n).1 ab).2.2.2
     have HAm : Hid (∀ w', Calls Tryz.prog 68 #[.int .i64 s.n] w' fun e w2 => e = .returned (.string (dg s.n)) /\ w2 = w') := fun w' => amount_any s.n w' (by omega) (by omega)
     have HDi : Hid (∀ w', Calls Tryz.prog 26 #[.int .i64 s.y] w' fun e w2 => e = .returned (.string (dg s.y)) /\ w2 = w') := fun w' => refDg_any s.y w' (by omega) (by omega)
     have z1 := dg_size s.n 15 (by omega)
     have z2 := dg_size s.y 1 (by omega)
     have z3 := name_le nb
     have z4 := (wk_name s.k hk1 hk4).2.2.2
     have hsT : stT s = 32 :: 32 :: ((wk s.k).data.toList ++ 32 :: (s.a.data.toList ++ 32 :: ((dg s.n).data.toList ++ 32 :: (Df.wTries.data.toList ++ 32 :: ((dg s.y).data.toList ++ [59, 10]))))) := by unfold stT stW; rw [hk', if_neg (by decide)]; rfl
     obtain ⟨kn, hkn⟩ : ∃ kn : Nat, s.k = (kn : Int) := ⟨s.k.toNat, by omega⟩
     obtain ⟨wl, ew, lw⟩ := to_list (wk s.k)
     obtain ⟨al, ea, la⟩ := to_list s.a
     obtain ⟨dl, ed, ld⟩ := to_list (dg s.n)
     obtain ⟨yl, ey, ly⟩ := to_list (dg s.y)
     have HWa : Hid (∀ {w' : World} {g : Nat}, StrsIn w' g [⟨#[]⟩, Df.wDebit, Df.wCredit, Df.wReserve, Df.wRelease] -> w'.cell? ⟨g, kn, none⟩ = some (.string ⟨wl.toArray⟩)) := fun h => by
      have := words_at h kn (by omega) (by omega)
      rw [<- hkn, ew] at this
      exact this
     have hsz : wl.length <= 7 /\ al.length <= 16 /\ dl.length <= 16 /\ yl.length <= 2 := by
      rw [<- lw, <- la, <- ld, <- ly]
      simp only [Array.length_toList, ByteArray.size_data]
      omega
     rw [lw, la, ld, ly] at hsT
     rw [ed] at HAm
     rw [ey] at HDi
     rw [hkn, ea] at HB0
     rw [hkn] at c0
     rw [ea] at c1
     have b1 := add_lists t0 [32, 32] (by simp only [List.length_cons, List.length_nil]; omega)
     have b2 := add_lists (t0 ++ [32, 32]) wl (by simp only [List.length_append, List.length_cons, List.length_nil]; omega)
     have b3 := add_lists (t0 ++ [32, 32] ++ wl) [32] (by simp only [List.length_append, List.length_cons, List.length_nil]; omega)
     have b4 := add_lists (t0 ++ [32, 32] ++ wl ++ [32]) al (by simp only [List.length_append, List.length_cons, List.length_nil]; omega)
     have b5 := add_lists (t0 ++ [32, 32] ++ wl ++ [32] ++ al) [32] (by simp only [List.length_append, List.length_cons, List.length_nil]; omega)
     have b6 := add_lists (t0 ++ [32, 32] ++ wl ++ [32] ++ al ++ [32]) dl (by simp only [List.length_append, List.length_cons, List.length_nil]; omega)
     have b7 := add_lists (t0 ++ [32, 32] ++ wl ++ [32] ++ al ++ [32] ++ dl) [32, 116, 114, 105, 101, 115, 32] (by simp only [List.length_append, List.length_cons, List.length_nil]; omega)
     have b8 := add_lists (t0 ++ [32, 32] ++ wl ++ [32] ++ al ++ [32] ++ dl ++ [32, 116, 114, 105, 101, 115, 32]) yl (by simp only [List.length_append, List.length_cons, List.length_nil]; omega)
     have b9 := add_lists (t0 ++ [32, 32] ++ wl ++ [32] ++ al ++ [32] ++ dl ++ [32, 116, 114, 105, 101, 115, 32] ++ yl) [59, 10] (by simp only [List.length_append, List.length_cons, List.length_nil]; omega)
     have HTN : Hid (tn = t0 ++ [32, 32] ++ wl ++ [32] ++ al ++ [32] ++ dl ++ [32, 116, 114, 105, 101, 115, 32] ++ yl ++ [59, 10]) := by show _ = _; rw [HFT.out, hsT]; simp [Df.wTries]
     generalize t0 ++ [32, 32] ++ wl ++ [32] ++ al ++ [32] ++ dl ++ [32, 116, 114, 105, 101, 115, 32] ++ yl ++ [59, 10] = s9 at *
     generalize t0 ++ [32, 32] ++ wl ++ [32] ++ al ++ [32] ++ dl ++ [32, 116, 114, 105, 101, 115, 32] ++ yl = s8 at *
     generalize t0 ++ [32, 32] ++ wl ++ [32] ++ al ++ [32] ++ dl ++ [32, 116, 114, 105, 101, 115, 32] = s7 at *
     generalize t0 ++ [32, 32] ++ wl ++ [32] ++ al ++ [32] ++ dl = s6 at *
     generalize t0 ++ [32, 32] ++ wl ++ [32] ++ al ++ [32] = s5 at *
     generalize t0 ++ [32, 32] ++ wl ++ [32] ++ al = s4 at *
     generalize t0 ++ [32, 32] ++ wl ++ [32] = s3 at *
     generalize t0 ++ [32, 32] ++ wl = s2 at *
     generalize t0 ++ [32, 32] = s1 at *
     have hk5 : (kn : Int) < 5 := by omega
     have hk5n : kn < 5 := by omega
     have ht2 : (s.u.toList == []) = true := ht
     clear ht q1 q2 hu hk' how hq ab y1 y2 hk1 hk4 nb n1 n2 z1 z2 z3 z4 hsT ew lw la ld ly hsz ed ey hst hkn ea ho
     generalize s.n = n2 at *
     generalize s.o = n3 at *
     generalize s.u = n4 at *
     generalize s.y = n5 at *
     generalize s.v = n6 at *
     go_upto_region 9 with fail
     obtain ⟨d0, d1, d2, d3, d4, d5, d6⟩ := HB0.out.cells
     have dl0 := HB0.out.lt
     refine wp_region_held_drew (S := (fun w' => Gr (wr.alloc (.cells #[.int .i64 (kn : Int), .string ⟨al.toArray⟩, .int .i64 n2, .int .i64 n3, .string n4, .int .i64 n5, .int .i64 n6] 94)) w' /\ w'.cell? ⟨wr.heap.size, 0, none⟩ = some (.int .i64 (kn : Int)) /\ w'.cell? ⟨wr.heap.size, 1, none⟩ = some (.string ⟨al.toArray⟩) /\ w'.cell? ⟨wr.heap.size, 2, none⟩ = some (.int .i64 n2) /\ w'.cell? ⟨wr.heap.size, 3, none⟩ = some (.int .i64 n3) /\ w'.cell? ⟨wr.heap.size, 4, none⟩ = some (.string n4) /\ w'.cell? ⟨wr.heap.size, 5, none⟩ = some (.int .i64 n5) /\ w'.cell? ⟨wr.heap.size, 6, none⟩ = some (.int .i64 n6))) (by kernel_rfl) (by exact holdW HB0.out (by (with_reducible repeat' (first | exact Gr.refl _ | refine Gr.set ?_ _ ?_ _ | refine Gr.alloc ?_ | refine Gr.drew ?_ | refine Gr.trans ?_ (by assumption))) <;> (first | (simp; done) | (simp; omega) | omega))) (fun hHeld => ?_)
     refine ty 0 29 hHeld ?_
     refine ty 1 30 hHeld ?_
     refine ty 3 32 hHeld ?_
     refine ty 4 33 hHeld ?_
     refine ty 5 34 hHeld ?_
     refine ty 10 39 hHeld ?_
     refine ty 11 40 hHeld ?_
     refine ty 12 41 hHeld ?_
     refine ty 15 44 hHeld ?_
     refine ty 16 45 hHeld ?_
     refine ty 17 46 hHeld ?_
     refine ty 21 50 hHeld ?_
     refine ty 22 51 hHeld ?_
     refine wpAnyH_ready (rs := [2]) (by kernel_rfl) (by simp) (AllReadyH.cons rfl (fun K hK => ?_) AllReadyH.nil)
     go_simp
     refine (HWo.out _).mono ?_; rintro e wA ⟨rfl, hst, hltA, hgA⟩
     (try go_wp2_with fail)
     refine hK.out _ _ (by exact holdW HB0.out (by (with_reducible repeat' (first | exact Gr.refl _ | refine Gr.set ?_ _ ?_ _ | refine Gr.alloc ?_ | refine Gr.drew ?_ | refine Gr.trans ?_ (by assumption))) <;> (first | (simp; done) | (simp; omega) | omega))) (fun hHeldN => ?_)
     clear hHeld hK K
     have hHeld := hHeldN
     clear hHeldN
     have hwa : wA.cell? ⟨wr.heap.size + 1, kn, none⟩ = some (.string ⟨wl.toArray⟩) := by have := HWa.out hst; simpa using this
     have HGA : Hid (Gr (wr.alloc (.cells #[.int .i64 (kn : Int), .string ⟨al.toArray⟩, .int .i64 n2, .int .i64 n3, .string n4, .int .i64 n5, .int .i64 n6] 94)) wA) := hHeld.1
     clear hst
     refine wpAnyH_more (S2 := (fun w' => (Gr (wr.alloc (.cells #[.int .i64 (kn : Int), .string ⟨al.toArray⟩, .int .i64 n2, .int .i64 n3, .string n4, .int .i64 n5, .int .i64 n6] 94)) w' /\ w'.cell? ⟨wr.heap.size, 0, none⟩ = some (.int .i64 (kn : Int)) /\ w'.cell? ⟨wr.heap.size, 1, none⟩ = some (.string ⟨al.toArray⟩) /\ w'.cell? ⟨wr.heap.size, 2, none⟩ = some (.int .i64 n2) /\ w'.cell? ⟨wr.heap.size, 3, none⟩ = some (.int .i64 n3) /\ w'.cell? ⟨wr.heap.size, 4, none⟩ = some (.string n4) /\ w'.cell? ⟨wr.heap.size, 5, none⟩ = some (.int .i64 n5) /\ w'.cell? ⟨wr.heap.size, 6, none⟩ = some (.int .i64 n6)) /\ Gr wA w' /\ w'.cell? ⟨wr.heap.size + 1, kn, none⟩ = some (.string ⟨wl.toArray⟩))) (by exact fun w' h => h.1) _ _ _ _ ?_
     replace hHeld : ((fun w' => (Gr (wr.alloc (.cells #[.int .i64 (kn : Int), .string ⟨al.toArray⟩, .int .i64 n2, .int .i64 n3, .string n4, .int .i64 n5, .int .i64 n6] 94)) w' /\ w'.cell? ⟨wr.heap.size, 0, none⟩ = some (.int .i64 (kn : Int)) /\ w'.cell? ⟨wr.heap.size, 1, none⟩ = some (.string ⟨al.toArray⟩) /\ w'.cell? ⟨wr.heap.size, 2, none⟩ = some (.int .i64 n2) /\ w'.cell? ⟨wr.heap.size, 3, none⟩ = some (.int .i64 n3) /\ w'.cell? ⟨wr.heap.size, 4, none⟩ = some (.string n4) /\ w'.cell? ⟨wr.heap.size, 5, none⟩ = some (.int .i64 n5) /\ w'.cell? ⟨wr.heap.size, 6, none⟩ = some (.int .i64 n6)) /\ Gr wA w' /\ w'.cell? ⟨wr.heap.size + 1, kn, none⟩ = some (.string ⟨wl.toArray⟩))) wA := by exact holdW2 HB0.out HGA.out hwa (Gr.refl _)
     refine ty 6 35 hHeld ?_
     refine ty 7 36 hHeld ?_
     refine ty 8 37 hHeld ?_
     refine ty 9 38 hHeld ?_
     refine ty 13 42 hHeld ?_
     refine ty 14 43 hHeld ?_
     refine wpAnyH_ready (rs := [18]) (by kernel_rfl) (by simp) (AllReadyH.cons rfl (fun K hK => ?_) AllReadyH.nil)
     go_simp
     refine (HAm.out _).mono ?_; rintro e wB ⟨rfl, hw⟩; obtain rfl := hw.symm
     (try go_wp2_with fail)
     refine hK.out _ _ (by exact holdW2 HB0.out HGA.out hwa (by (with_reducible repeat' (first | exact Gr.refl _ | refine Gr.set ?_ _ ?_ _ | refine Gr.alloc ?_ | refine Gr.drew ?_ | refine Gr.trans ?_ (by assumption))) <;> (first | (simp; done) | (simp; omega) | omega))) (fun hHeldN => ?_)
     clear hHeld hK K
     have hHeld := hHeldN
     clear hHeldN
     refine ty 19 48 hHeld ?_
     refine ty 20 49 hHeld ?_
     refine wpAnyH_ready (rs := [23]) (by kernel_rfl) (by simp) (AllReadyH.cons rfl (fun K hK => ?_) AllReadyH.nil)
     go_simp
     refine (HDi.out _).mono ?_; rintro e wB ⟨rfl, hw⟩; obtain rfl := hw.symm
     (try go_wp2_with fail)
     refine hK.out _ _ (by exact holdW2 HB0.out HGA.out hwa (by (with_reducible repeat' (first | exact Gr.refl _ | refine Gr.set ?_ _ ?_ _ | refine Gr.alloc ?_ | refine Gr.drew ?_ | refine Gr.trans ?_ (by assumption))) <;> (first | (simp; done) | (simp; omega) | omega))) (fun hHeldN => ?_)
     clear hHeld hK K
     have hHeld := hHeldN
     clear hHeldN
     refine ty 24 53 hHeld ?_
     refine ty 25 54 hHeld ?_
     refine ty 26 4 hHeld ?_
     refine wpAnyH_done (by kernel_rfl) ?_ _
     go_wp2
     go_roundw
     case rel => exact ⟨k + 1, by omega, by go_num, by rw [HTn.out, HTN.out], (HXw.out.gr (Gr.refl _).alloc).gr HGA.out, HG.out.alloc.trans HGA.out⟩
     case measure => simp [intOf]; omega
    ·rw [decide_eq_false hu] at ht
     have hk' := q2 hu
     have hq := (Df.ask_iff s).1 hk'
     have nb := hq.1
     have o1 := hq.2.2.2.2.2.1
     have o2 := hq.2.2.2.2.2.2.1
     have v1 := hq.2.2.2.2.2.2.2.1
     have v2 := hq.2.2.2.2.2.2.2.2
     have HAm : Hid (∀ w', Calls Tryz.prog 26 #[.int .i64 s.o] w' fun e w2 => e = .returned (.string (dg s.o)) /\ w2 = w') := fun w' => refDg_any s.o w' (by omega) (by omega)
     have HDi : Hid (∀ w', Calls Tryz.prog 26 #[.int .i64 s.v] w' fun e w2 => e = .returned (.string (dg s.v)) /\ w2 = w') := fun w' => refDg_any s.v w' (by omega) (by omega)
     have z1 := dg_size s.o 1 (by omega)
     have z2 := dg_size s.v 1 (by omega)
     have z3 := name_le nb
     have hsT : stT s = 32 :: 32 :: (Df.wAsk.data.toList ++ 32 :: ((dg s.o).data.toList ++ 32 :: (s.u.data.toList ++ 32 :: (Df.wWait.data.toList ++ 32 :: ((dg s.v).data.toList ++ [59, 10]))))) := by unfold stT stW; rw [hk', if_pos rfl]; rfl
     obtain ⟨al, ea, la⟩ := to_list s.u
     obtain ⟨dl, ed, ld⟩ := to_list (dg s.o)
     obtain ⟨yl, ey, ly⟩ := to_list (dg s.v)
     have hsz : al.length <= 16 /\ dl.length <= 2 /\ yl.length <= 2 := by
      rw [<- la, <- ld, <- ly]
      simp only [Array.length_toList, ByteArray.size_data]
      omega
     rw [la, ld, ly] at hsT
     rw [ed] at HAm
     rw [ey] at HDi
     have ht2 : (s.u.toList == []) = false := ht
     have hal : al ≠ [] := fun e => hu (by rw [ea, e])
     have hal2 : (al == []) = false := by simpa using hal
     rw [ea] at HB0 c4 ht2
     have b1 := add_lists t0 [32, 32, 97, 115, 107, 32] (by simp only [List.length_cons, List.length_nil]; omega)
     have b2 := add_lists (t0 ++ [32, 32, 97, 115, 107, 32]) dl (by simp only [List.length_append, List.length_cons, List.length_nil]; omega)
     have b3 := add_lists (t0 ++ [32, 32, 97, 115, 107, 32] ++ dl) [32] (by simp only [List.length_append, List.length_cons, List.length_nil]; omega)
     have b4 := add_lists (t0 ++ [32, 32, 97, 115, 107, 32] ++ dl ++ [32]) al (by simp only [List.length_append, List.length_cons, List.length_nil]; omega)
     have b5 := add_lists (t0 ++ [32, 32, 97, 115, 107, 32] ++ dl ++ [32] ++ al) [32, 119, 97, 105, 116, 32] (by simp only [List.length_append, List.length_cons, List.length_nil]; omega)
     have b6 := add_lists (t0 ++ [32, 32, 97, 115, 107, 32] ++ dl ++ [32] ++ al ++ [32, 119, 97, 105, 116, 32]) yl (by simp only [List.length_append, List.length_cons, List.length_nil]; omega)
     have b7 := add_lists (t0 ++ [32, 32, 97, 115, 107, 32] ++ dl ++ [32] ++ al ++ [32, 119, 97, 105, 116, 32] ++ yl) [59, 10] (by simp only [List.length_append, List.length_cons, List.length_nil]; omega)
     have HTN : Hid (tn = t0 ++ [32, 32, 97, 115, 107, 32] ++ dl ++ [32] ++ al ++ [32, 119, 97, 105, 116, 32] ++ yl ++ [59, 10]) := by show _ = _; rw [HFT.out, hsT]; simp [Df.wAsk, Df.wWait]
     generalize t0 ++ [32, 32, 97, 115, 107, 32] ++ dl ++ [32] ++ al ++ [32, 119, 97, 105, 116, 32] ++ yl ++ [59, 10] = s7 at *
     generalize t0 ++ [32, 32, 97, 115, 107, 32] ++ dl ++ [32] ++ al ++ [32, 119, 97, 105, 116, 32] ++ yl = s6 at *
     generalize t0 ++ [32, 32, 97, 115, 107, 32] ++ dl ++ [32] ++ al ++ [32, 119, 97, 105, 116, 32] = s5 at *
     generalize t0 ++ [32, 32, 97, 115, 107, 32] ++ dl ++ [32] ++ al = s4 at *
     generalize t0 ++ [32, 32, 97, 115, 107, 32] ++ dl ++ [32] = s3 at *
     generalize t0 ++ [32, 32, 97, 115, 107, 32] ++ dl = s2 at *
     generalize t0 ++ [32, 32, 97, 115, 107, 32] = s1 at *
     clear ht q1 q2 hu hk' hq nb o1 o2 v1 v2 z1 z2 z3 hsT la ld ly hsz ed ey hst ea ho
     generalize s.k = n0 at *
     generalize s.a = n1 at *
     generalize s.n = n2 at *
     generalize s.o = n3 at *
     generalize s.y = n5 at *
     generalize s.v = n6 at *
     go_upto_region 10 with fail
     obtain ⟨d0, d1, d2, d3, d4, d5, d6⟩ := HB0.out.cells
     have dl0 := HB0.out.lt
     refine wp_region_held_drew (S := (fun w' => Gr (wr.alloc (.cells #[.int .i64 n0, .string n1, .int .i64 n2, .int .i64 n3, .string ⟨al.toArray⟩, .int .i64 n5, .int .i64 n6] 94)) w' /\ w'.cell? ⟨wr.heap.size, 0, none⟩ = some (.int .i64 n0) /\ w'.cell? ⟨wr.heap.size, 1, none⟩ = some (.string n1) /\ w'.cell? ⟨wr.heap.size, 2, none⟩ = some (.int .i64 n2) /\ w'.cell? ⟨wr.heap.size, 3, none⟩ = some (.int .i64 n3) /\ w'.cell? ⟨wr.heap.size, 4, none⟩ = some (.string ⟨al.toArray⟩) /\ w'.cell? ⟨wr.heap.size, 5, none⟩ = some (.int .i64 n5) /\ w'.cell? ⟨wr.heap.size, 6, none⟩ = some (.int .i64 n6))) (by kernel_rfl) (by exact holdW HB0.out (by (with_reducible repeat' (first | exact Gr.refl _ | refine Gr.set ?_ _ ?_ _ | refine Gr.alloc ?_ | refine Gr.drew ?_ | refine Gr.trans ?_ (by assumption))) <;> (first | (simp; done) | (simp; omega) | omega))) (fun hHeld => ?_)
     refine ty 0 55 hHeld ?_
     refine ty 1 56 hHeld ?_
     refine ty 2 57 hHeld ?_
     refine ty 3 58 hHeld ?_
     refine ty 7 62 hHeld ?_
     refine ty 8 63 hHeld ?_
     refine ty 11 66 hHeld ?_
     refine ty 12 67 hHeld ?_
     refine wpAnyH_ready (rs := [4]) (by kernel_rfl) (by simp) (AllReadyH.cons rfl (fun K hK => ?_) AllReadyH.nil)
     go_simp
     refine (HAm.out _).mono ?_; rintro e wB ⟨rfl, hw⟩; obtain rfl := hw.symm
     (try go_wp2_with fail)
     refine hK.out _ _ (by exact holdW HB0.out (by (with_reducible repeat' (first | exact Gr.refl _ | refine Gr.set ?_ _ ?_ _ | refine Gr.alloc ?_ | refine Gr.drew ?_ | refine Gr.trans ?_ (by assumption))) <;> (first | (simp; done) | (simp; omega) | omega))) (fun hHeldN => ?_)
     clear hHeld hK K
     have hHeld := hHeldN
     clear hHeldN
     refine ty 5 60 hHeld ?_
     refine ty 6 61 hHeld ?_
     refine ty 9 64 hHeld ?_
     refine ty 10 65 hHeld ?_
     refine wpAnyH_ready (rs := [13]) (by kernel_rfl) (by simp) (AllReadyH.cons rfl (fun K hK => ?_) AllReadyH.nil)
     go_simp
     refine (HDi.out _).mono ?_; rintro e wB ⟨rfl, hw⟩; obtain rfl := hw.symm
     (try go_wp2_with fail)
     refine hK.out _ _ (by exact holdW HB0.out (by (with_reducible repeat' (first | exact Gr.refl _ | refine Gr.set ?_ _ ?_ _ | refine Gr.alloc ?_ | refine Gr.drew ?_ | refine Gr.trans ?_ (by assumption))) <;> (first | (simp; done) | (simp; omega) | omega))) (fun hHeldN => ?_)
     clear hHeld hK K
     have hHeld := hHeldN
     clear hHeldN
     refine ty 14 69 hHeld ?_
     refine ty 15 70 hHeld ?_
     refine ty 16 4 hHeld ?_
     refine wpAnyH_done (by kernel_rfl) ?_ _
     have HGA := Lib.hid hHeld.1
     go_wp2
     go_roundw
     case rel => exact ⟨k + 1, by omega, by go_num, by rw [HTn.out, HTN.out], (HXw.out.gr (Gr.refl _).alloc).gr HGA.out, HG.out.alloc.trans HGA.out⟩
     case measure => simp [intOf]; omega
   ·obtain rfl : k = L.length := by omega
    rw [List.take_length]
    rw [List.take_length] at hbk
    have a6 := add_lists (HD ++ L.flatMap stT) [125, 10] (by simp only [List.length_append, List.length_cons, List.length_nil] at hH ⊢; omega)
    have HTT : Hid (RT = HD ++ L.flatMap stT ++ [125, 10]) := HT.out
    generalize HD ++ L.flatMap stT ++ [125, 10] = t7 at *
    generalize HD ++ L.flatMap stT = t6 at *
    go_wp2
    go_ret2
    exact ⟨by rw [HTT.out]; rfl, HG.out⟩
end Go.Proofs.YthaadiclopoamaaGreatDoor
