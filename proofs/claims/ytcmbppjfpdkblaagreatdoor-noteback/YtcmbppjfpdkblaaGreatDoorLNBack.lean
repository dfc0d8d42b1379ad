import Derived.Test.YtcmbppjfpdkblaaGreatDoorHC
import Derived.Test.YtcmbppjfpdkblaaGreatDoorHB
import Derived.Test.YtcmbppjfpdkblaaGreatDoorGS
import Derived.SevenTiedAt

/- For every input the law NoteBack answers true: a frame is read as it was laid; what is read is laid as it stood. -/
namespace Go.Proofs.YtcmbppjfpdkblaaGreatDoor
open Go.ChangeShapes Go.WideShapes Go.ChangeAt Go.RowKit
open Go.ChangeMaps (open_string shut_string)

theorem enc_len (f : Fm) : (Nt.encL f).length ≤ 400 := by
  unfold Nt.encL
  split
  · next h =>
    have hl := Nt.bd_len _ h
    have hfl := Sl.frame_len 1 (Nt.bd f)
    have hnl := Pk.num_len (Nt.bd f).length
    omega
  · simp

set_option maxHeartbeats 20000000 in
set_option maxRecDepth 100000 in
theorem noteBack_walk (fr tx ep sq ae ac k r n : Int) (L : List (Int × Int)) (d : ByteArray) (y : Int) (ad : Option Addr) (cap : Nat) (w : World) (he : EnvN w) (hL : HopsAt w ad L) (hn : L.length ≤ 9223372036854775807) (hc : L.length ≤ cap) (hd : d.size ≤ 9223372036854775807) (s : ByteArray) (hs : s.size ≤ 140737488355328) :
    Calls Tryz.prog 6 #[.agg #[.int .i64 fr, .int .i64 tx, .int .i64 ep, .int .i64 sq, .int .i64 ae, .int .i64 ac, .int .i64 k, .int .i64 r, .int .i64 n, .slice ad L.length cap, .string d, .int .i64 y], .string s] w fun e w' => e = .returned (.bool true) ∧ Gr w w' := by
  have HA : Hid (∀ w', Gr w w' → Calls Tryz.prog 9 #[] w' fun e w2 => e = .returned (.bool true) ∧ Gr w' w2) := fun w' g => awake_any w' (he.gr g)
  have HW : Hid (∀ w', Gr w w' → Calls Tryz.prog 8 #[.agg #[.int .i64 k, .int .i64 r, .int .i64 n, .slice ad L.length cap, .string d, .int .i64 y]] w' fun e w2 => e = .returned (.bool (decide (L.length ≤ 200) && decide (d.size ≤ 10000))) ∧ Gr w' w2) := fun w' _ => few_any k r n L d y ad cap w'
  by_cases hf : (decide (L.length ≤ 200) && decide (d.size ≤ 10000)) = true
  · rw [hf] at HW
    by_cases hl : s.size ≤ 40000
    · have hl' : ¬ ((40000 : Int) < (s.size : Int)) := by omega
      obtain ⟨d4, dd⟩ := dc_small s.data.toList
      have HE : Hid (∀ w', Gr w w' → Calls Tryz.prog 16 #[.agg #[.int .i64 fr, .int .i64 tx, .int .i64 ep, .int .i64 sq, .int .i64 ae, .int .i64 ac, .int .i64 k, .int .i64 r, .int .i64 n, .slice ad L.length cap, .string d, .int .i64 y]] w' fun e w2 => e = .returned (.tuple #[.string ⟨(Nt.encL (⟨fr, tx, ep, sq, ae, ac, ⟨k, r, n, L, d, y⟩⟩ : Fm)).toArray⟩, .int .i64 (if Nt.frB (⟨fr, tx, ep, sq, ae, ac, ⟨k, r, n, L, d, y⟩⟩ : Fm) = true then 0 else 130)]) ∧ Gr w' w2) := fun w' g => nEncode_any fr tx ep sq ae ac k r n L d y ad cap w' (hL.gr g) hn hd hc (he.tab.gr g) (he.env.gr g)
      have HD : Hid (∀ w', Gr w w' → Calls Tryz.prog 20 #[.string s] w' fun e w2 => ∃ ad cap, e = .returned (.tuple #[.agg (fmC (Nt.dcF s.data.toList) ad cap).toArray, .int .i64 (Nt.dcE s.data.toList)]) ∧ (Nt.dcF s.data.toList).n.L.length ≤ cap ∧ HopsAt w2 ad (Nt.dcF s.data.toList).n.L ∧ Gr w' w2) := by
        intro w' g
        refine (nDecode_any s w' (he.tab.gr g) (he.env.gr g) hs).mono ?_
        rintro e w2 ⟨ad, cap, h1, h2, h3, _, h5⟩
        exact ⟨ad, cap, h1, h2, h3, h5⟩
      have HB : Hid (Nt.frB (⟨fr, tx, ep, sq, ae, ac, ⟨k, r, n, L, d, y⟩⟩ : Fm) = true → ∀ w', Gr w w' → Calls Tryz.prog 20 #[.string ⟨(Nt.encL (⟨fr, tx, ep, sq, ae, ac, ⟨k, r, n, L, d, y⟩⟩ : Fm)).toArray⟩] w' fun e w2 => ∃ ad2 cap2, e = .returned (.tuple #[.agg #[.int .i64 fr, .int .i64 tx, .int .i64 ep, .int .i64 sq, .int .i64 ae, .int .i64 ac, .int .i64 k, .int .i64 r, .int .i64 n, .slice ad2 L.length cap2, .string d, .int .i64 y], .int .i64 0]) ∧ L.length ≤ cap2 ∧ HopsAt w2 ad2 L ∧ Gr w' w2) := by
        intro hb w' g
        have hel := enc_len (⟨fr, tx, ep, sq, ae, ac, ⟨k, r, n, L, d, y⟩⟩ : Fm)
        refine (nDecode_any ⟨(Nt.encL (⟨fr, tx, ep, sq, ae, ac, ⟨k, r, n, L, d, y⟩⟩ : Fm)).toArray⟩ w' (he.tab.gr g) (he.env.gr g) (by simp [ByteArray.size]; omega)).mono ?_
        rintro e w2 ⟨ad2, cap2, h1, h2, h3, _, h5⟩
        have e1 : Nt.dcF (⟨(Nt.encL (⟨fr, tx, ep, sq, ae, ac, ⟨k, r, n, L, d, y⟩⟩ : Fm)).toArray⟩ : ByteArray).data.toList = (⟨fr, tx, ep, sq, ae, ac, ⟨k, r, n, L, d, y⟩⟩ : Fm) := (Nt.dec_enc _ hb).1
        have e2 : Nt.dcE (⟨(Nt.encL (⟨fr, tx, ep, sq, ae, ac, ⟨k, r, n, L, d, y⟩⟩ : Fm)).toArray⟩ : ByteArray).data.toList = 0 := (Nt.dec_enc _ hb).2
        rw [e1, e2] at h1
        rw [e1] at h2 h3
        exact ⟨ad2, cap2, h1, h2, h3, h5⟩
      have HQ : Hid (∀ (w' : World) (a b : Option Addr) (c c2 : Nat), HopsAt w' a L → HopsAt w' b L → Calls Tryz.prog 22 #[.agg #[.int .i64 fr, .int .i64 tx, .int .i64 ep, .int .i64 sq, .int .i64 ae, .int .i64 ac, .int .i64 k, .int .i64 r, .int .i64 n, .slice a L.length c, .string d, .int .i64 y], .agg #[.int .i64 fr, .int .i64 tx, .int .i64 ep, .int .i64 sq, .int .i64 ae, .int .i64 ac, .int .i64 k, .int .i64 r, .int .i64 n, .slice b L.length c2, .string d, .int .i64 y]] w' fun e w2 => e = .returned (.bool true) ∧ Gr w' w2) := fun w' a b c c2 h1 h2 => rSame_any fr tx ep sq ae ac k r n L d y a b c c2 w' h1 h2 hn
      have HM : Hid (Nt.frB (⟨fr, tx, ep, sq, ae, ac, ⟨k, r, n, L, d, y⟩⟩ : Fm) = true → ∀ (w' : World) (a : Option Addr) (c : Nat), HopsAt w' a L → L.length ≤ c → Calls Tryz.prog 18 #[.agg #[.int .i64 fr, .int .i64 tx, .int .i64 ep, .int .i64 sq, .int .i64 ae, .int .i64 ac, .int .i64 k, .int .i64 r, .int .i64 n, .slice a L.length c, .string d, .int .i64 y]] w' fun e w2 => e = .returned (.int .i64 0) ∧ Gr w' w2) := fun hb w' a c h1 h2 => by
        have := nFrame_any fr tx ep sq ae ac k r n L d y a c w' h1 hn hd h2
        unfold Nt.frE at this
        rw [if_pos hb] at this
        exact this
      have hform : Nt.dcE s.data.toList = 0 → Nt.frB (Nt.dcF s.data.toList) = true ∧ Nt.encL (Nt.dcF s.data.toList) = s.data.toList := fun h => Nt.dec_form _ h
      have hzero : ¬ Nt.dcE s.data.toList = 0 → Nt.dcF s.data.toList = Nt.zeroF := fun h => Nt.dec_zero _ h
      have HG : Hid (∀ (w' : World) (a : Option Addr) (c : Nat), Gr w w' → HopsAt w' a (Nt.dcF s.data.toList).n.L → (Nt.dcF s.data.toList).n.L.length ≤ c → Calls Tryz.prog 16 #[.agg (fmC (Nt.dcF s.data.toList) a c).toArray] w' fun e w2 => e = .returned (.tuple #[.string ⟨(Nt.encL (Nt.dcF s.data.toList)).toArray⟩, .int .i64 (if Nt.frB (Nt.dcF s.data.toList) = true then 0 else 130)]) ∧ Gr w' w2) := fun w' a c g h1 h2 => nEncode_any (Nt.dcF s.data.toList).f (Nt.dcF s.data.toList).t (Nt.dcF s.data.toList).e (Nt.dcF s.data.toList).s (Nt.dcF s.data.toList).a (Nt.dcF s.data.toList).c (Nt.dcF s.data.toList).n.k (Nt.dcF s.data.toList).n.r (Nt.dcF s.data.toList).n.n (Nt.dcF s.data.toList).n.L (Nt.dcF s.data.toList).n.d (Nt.dcF s.data.toList).n.y a c w' h1 (by omega) dd h2 (he.tab.gr g) (he.env.gr g)
      have HZ : Hid (∀ (w' : World) (a : Option Addr) (c : Nat), Calls Tryz.prog 22 #[.agg #[.int .i64 0, .int .i64 0, .int .i64 0, .int .i64 0, .int .i64 0, .int .i64 0, .int .i64 0, .int .i64 0, .int .i64 0, .slice a 0 c, .string ⟨#[]⟩, .int .i64 0], .agg #[.int .i64 0, .int .i64 0, .int .i64 0, .int .i64 0, .int .i64 0, .int .i64 0, .int .i64 0, .int .i64 0, .int .i64 0, .slice none 0 0, .string ⟨#[]⟩, .int .i64 0]] w' fun e w2 => e = .returned (.bool true) ∧ Gr w' w2) := fun w' a c => rSame_any 0 0 0 0 0 0 0 0 0 [] ⟨#[]⟩ 0 a none c 0 w' HopsAt.nil HopsAt.nil (by simp)
      have HL := Lib.hid hL
      clear he hL hn hc hd hf hs hl d4 dd
      by_cases hb : Nt.frB (⟨fr, tx, ep, sq, ae, ac, ⟨k, r, n, L, d, y⟩⟩ : Fm) = true
      · have HB := Lib.hid (HB.out hb)
        have HM := Lib.hid (HM.out hb)
        rw [if_pos hb] at HE
        generalize Nt.encL (⟨fr, tx, ep, sq, ae, ac, ⟨k, r, n, L, d, y⟩⟩ : Fm) = EL at *
        clear hb
        go_enter Tryz.func6, Tryz.ntmps6
        go_wp2_with fail
        refine (HW.out _ ?_).mono ?_
        · exact (by repeat (first | exact Gr.refl _ | refine Gr.alloc ?_ | refine Gr.drew ?_ | refine Gr.trans ?_ (by assumption)))
        rintro e1 w1 ⟨rfl, hg1⟩
        have G1 : Gr w w1 := (by repeat (first | exact Gr.refl _ | refine Gr.alloc ?_ | refine Gr.drew ?_ | refine Gr.trans ?_ (by assumption)))
        have B1 := (Cs.new w [.int .i64 fr, .int .i64 tx, .int .i64 ep, .int .i64 sq, .int .i64 ae, .int .i64 ac, .int .i64 k, .int .i64 r, .int .i64 n, .slice ad L.length cap, .string d, .int .i64 y] 39 _ rfl).gr hg1
        have c0 := B1.at_ 0 _ rfl
        have c1 := B1.at_ 1 _ rfl
        have c2 := B1.at_ 2 _ rfl
        have c3 := B1.at_ 3 _ rfl
        have c4 := B1.at_ 4 _ rfl
        have c5 := B1.at_ 5 _ rfl
        have c6 := B1.at_ 6 _ rfl
        have c7 := B1.at_ 7 _ rfl
        have c8 := B1.at_ 8 _ rfl
        have c9 := B1.at_ 9 _ rfl
        have c10 := B1.at_ 10 _ rfl
        have c11 := B1.at_ 11 _ rfl
        have clt := B1.lt
        clear hg1
        go_wp2_with fail
        refine (HE.out _ G1).mono ?_
        rintro e2 w2 ⟨rfl, hg2⟩
        have G2 : Gr w w2 := G1.trans hg2
        have B2 := B1.gr hg2
        clear c0 c1 c2 c3 c4 c5 c6 c7 c8 c9 c10 c11 clt
        have c0 := B2.at_ 0 _ rfl
        have c1 := B2.at_ 1 _ rfl
        have c2 := B2.at_ 2 _ rfl
        have c3 := B2.at_ 3 _ rfl
        have c4 := B2.at_ 4 _ rfl
        have c5 := B2.at_ 5 _ rfl
        have c6 := B2.at_ 6 _ rfl
        have c7 := B2.at_ 7 _ rfl
        have c8 := B2.at_ 8 _ rfl
        have c9 := B2.at_ 9 _ rfl
        have c10 := B2.at_ 10 _ rfl
        have c11 := B2.at_ 11 _ rfl
        have clt := B2.lt
        clear hg2 G1 B1
        have L2 := Lib.hid (HL.out.gr G2)
        go_wp2_with fail
        refine (HB.out _ G2).mono ?_
        rintro e3 w3 ⟨ad3, cap3, rfl, hcp3, hi3, hg3⟩
        have G3 : Gr w w3 := G2.trans hg3
        have B3 := B2.gr hg3
        have L3 := Lib.hid ((L2.out.gr hg3).alloc (ob := .cells #[.int .i64 fr, .int .i64 tx, .int .i64 ep, .int .i64 sq, .int .i64 ae, .int .i64 ac, .int .i64 k, .int .i64 r, .int .i64 n, .slice ad3 L.length cap3, .string d, .int .i64 y] 39))
        have I3 := Lib.hid hi3
        have J3 := Lib.hid (hi3.alloc (ob := .cells #[.int .i64 fr, .int .i64 tx, .int .i64 ep, .int .i64 sq, .int .i64 ae, .int .i64 ac, .int .i64 k, .int .i64 r, .int .i64 n, .slice ad3 L.length cap3, .string d, .int .i64 y] 39))
        have P3 := Lib.hid hcp3
        have D3 := Lib.hid (Cs.new w3 [.int .i64 fr, .int .i64 tx, .int .i64 ep, .int .i64 sq, .int .i64 ae, .int .i64 ac, .int .i64 k, .int .i64 r, .int .i64 n, .slice ad3 L.length cap3, .string d, .int .i64 y] 39 _ rfl)
        clear c0 c1 c2 c3 c4 c5 c6 c7 c8 c9 c10 c11 clt
        have c0 := B3.at_ 0 _ rfl
        have c1 := B3.at_ 1 _ rfl
        have c2 := B3.at_ 2 _ rfl
        have c3 := B3.at_ 3 _ rfl
        have c4 := B3.at_ 4 _ rfl
        have c5 := B3.at_ 5 _ rfl
        have c6 := B3.at_ 6 _ rfl
        have c7 := B3.at_ 7 _ rfl
        have c8 := B3.at_ 8 _ rfl
        have c9 := B3.at_ 9 _ rfl
        have c10 := B3.at_ 10 _ rfl
        have c11 := B3.at_ 11 _ rfl
        have clt := B3.lt
        clear hg3 hi3 hcp3 G2 B2 L2
        go_wp2_with fail
        refine (HQ.out _ _ _ _ _ J3.out L3.out).mono ?_
        rintro e4 w4 ⟨rfl, hg4⟩
        have G4 : Gr w w4 := G3.alloc.trans hg4
        have D4 := D3.out.gr hg4
        have I4 := Lib.hid (J3.out.gr hg4)
        clear c0 c1 c2 c3 c4 c5 c6 c7 c8 c9 c10 c11 clt
        have c0 := D4.at_ 0 _ rfl
        have c1 := D4.at_ 1 _ rfl
        have c2 := D4.at_ 2 _ rfl
        have c3 := D4.at_ 3 _ rfl
        have c4 := D4.at_ 4 _ rfl
        have c5 := D4.at_ 5 _ rfl
        have c6 := D4.at_ 6 _ rfl
        have c7 := D4.at_ 7 _ rfl
        have c8 := D4.at_ 8 _ rfl
        have c9 := D4.at_ 9 _ rfl
        have c10 := D4.at_ 10 _ rfl
        have c11 := D4.at_ 11 _ rfl
        have clt := D4.lt
        clear hg4 G3 B3 D3 J3 L3 I3
        go_wp2_with fail
        refine (HM.out _ _ _ I4.out P3.out).mono ?_
        rintro e5 w5 ⟨rfl, hg5⟩
        have G5 : Gr w w5 := G4.trans hg5
        clear c0 c1 c2 c3 c4 c5 c6 c7 c8 c9 c10 c11 clt
        clear hg5 G4 D4
        go_wp2_with fail
        refine (HD.out _ G5).mono ?_
        rintro e8 w8 ⟨ad8, cap8, rfl, hcp8, hi8, hg8⟩
        have G8 : Gr w w8 := G5.trans hg8
        have I8 := Lib.hid hi8
        have P8 := Lib.hid hcp8
        clear hg8 hi8 hcp8 G5
        by_cases h0 : Nt.dcE s.data.toList = 0
        · obtain ⟨q1, q2⟩ := hform h0
          rw [q1, q2] at HG
          rw [h0]
          rw [if_pos rfl] at HG
          generalize Nt.dcF s.data.toList = FF at *
          obtain ⟨gf, gt, ge, gs, ga, gc, ⟨gk, gr, gn, M, gd, gy⟩⟩ := FF
          simp only [fmC] at HG I8 P8 ⊢
          have hse : (⟨s.data.toList.toArray⟩ : ByteArray) = s := by simp
          rw [hse] at HG
          have D8 := Lib.hid (Cs.new w8 [.int .i64 gf, .int .i64 gt, .int .i64 ge, .int .i64 gs, .int .i64 ga, .int .i64 gc, .int .i64 gk, .int .i64 gr, .int .i64 gn, .slice ad8 M.length cap8, .string gd, .int .i64 gy] 39 _ rfl)
          clear hform hzero q1 q2 h0 hse HD
          go_wp2_with fail
          refine (HG.out _ _ _ G8.alloc I8.out.alloc P8.out).mono ?_
          rintro e9 w9 ⟨rfl, hg9⟩
          have G9 : Gr w w9 := G8.alloc.trans hg9
          clear hg9 G8
          go_wp2_with fail
          refine (HA.out _ G9).mono ?_
          rintro e10 w10 ⟨rfl, hg10⟩
          have G10 : Gr w w10 := G9.trans hg10
          go_wp2
          go_ret
          exact ⟨rfl, G10⟩
        · have q1 := hzero h0
          rw [q1]
          have h0b : (Nt.dcE s.data.toList != 0) = true := by simpa using h0
          generalize Nt.dcE s.data.toList = DE at *
          simp only [fmC, Nt.zeroF, Nt.zeroN, List.length_nil]
          clear hform hzero q1 h0 HD HG I8 P8
          go_wp2_with fail
          refine (HZ.out _ _ _).mono ?_
          rintro e9 w9 ⟨rfl, hg9⟩
          have G9 : Gr w w9 := G8.alloc.trans hg9
          clear hg9 G8
          go_wp2_with fail
          refine (HA.out _ G9).mono ?_
          rintro e10 w10 ⟨rfl, hg10⟩
          have G10 : Gr w w10 := G9.trans hg10
          go_wp2
          go_ret
          exact ⟨rfl, G10⟩
      · rw [if_neg hb] at HE
        generalize Nt.encL (⟨fr, tx, ep, sq, ae, ac, ⟨k, r, n, L, d, y⟩⟩ : Fm) = EL at *
        clear hb HB HM HQ
        go_enter Tryz.func6, Tryz.ntmps6
        go_wp2_with fail
        refine (HW.out _ ?_).mono ?_
        · exact (by repeat (first | exact Gr.refl _ | refine Gr.alloc ?_ | refine Gr.drew ?_ | refine Gr.trans ?_ (by assumption)))
        rintro e1 w1 ⟨rfl, hg1⟩
        have G1 : Gr w w1 := (by repeat (first | exact Gr.refl _ | refine Gr.alloc ?_ | refine Gr.drew ?_ | refine Gr.trans ?_ (by assumption)))
        have B1 := (Cs.new w [.int .i64 fr, .int .i64 tx, .int .i64 ep, .int .i64 sq, .int .i64 ae, .int .i64 ac, .int .i64 k, .int .i64 r, .int .i64 n, .slice ad L.length cap, .string d, .int .i64 y] 39 _ rfl).gr hg1
        have c0 := B1.at_ 0 _ rfl
        have c1 := B1.at_ 1 _ rfl
        have c2 := B1.at_ 2 _ rfl
        have c3 := B1.at_ 3 _ rfl
        have c4 := B1.at_ 4 _ rfl
        have c5 := B1.at_ 5 _ rfl
        have c6 := B1.at_ 6 _ rfl
        have c7 := B1.at_ 7 _ rfl
        have c8 := B1.at_ 8 _ rfl
        have c9 := B1.at_ 9 _ rfl
        have c10 := B1.at_ 10 _ rfl
        have c11 := B1.at_ 11 _ rfl
        have clt := B1.lt
        clear hg1
        go_wp2_with fail
        refine (HE.out _ G1).mono ?_
        rintro e2 w2 ⟨rfl, hg2⟩
        have G2 : Gr w w2 := G1.trans hg2
        have B2 := B1.gr hg2
        clear c0 c1 c2 c3 c4 c5 c6 c7 c8 c9 c10 c11 clt
        have c0 := B2.at_ 0 _ rfl
        have c1 := B2.at_ 1 _ rfl
        have c2 := B2.at_ 2 _ rfl
        have c3 := B2.at_ 3 _ rfl
        have c4 := B2.at_ 4 _ rfl
        have c5 := B2.at_ 5 _ rfl
        have c6 := B2.at_ 6 _ rfl
        have c7 := B2.at_ 7 _ rfl
        have c8 := B2.at_ 8 _ rfl
        have c9 := B2.at_ 9 _ rfl
        have c10 := B2.at_ 10 _ rfl
        have c11 := B2.at_ 11 _ rfl
        have clt := B2.lt
        clear hg2 G1 B1
        clear c0 c1 c2 c3 c4 c5 c6 c7 c8 c9 c10 c11 clt
        clear B2
        go_wp2_with fail
        refine (HD.out _ G2).mono ?_
        rintro e8 w8 ⟨ad8, cap8, rfl, hcp8, hi8, hg8⟩
        have G8 : Gr w w8 := G2.trans hg8
        have I8 := Lib.hid hi8
        have P8 := Lib.hid hcp8
        clear hg8 hi8 hcp8 G2
        by_cases h0 : Nt.dcE s.data.toList = 0
        · obtain ⟨q1, q2⟩ := hform h0
          rw [q1, q2] at HG
          rw [h0]
          rw [if_pos rfl] at HG
          generalize Nt.dcF s.data.toList = FF at *
          obtain ⟨gf, gt, ge, gs, ga, gc, ⟨gk, gr, gn, M, gd, gy⟩⟩ := FF
          simp only [fmC] at HG I8 P8 ⊢
          have hse : (⟨s.data.toList.toArray⟩ : ByteArray) = s := by simp
          rw [hse] at HG
          have D8 := Lib.hid (Cs.new w8 [.int .i64 gf, .int .i64 gt, .int .i64 ge, .int .i64 gs, .int .i64 ga, .int .i64 gc, .int .i64 gk, .int .i64 gr, .int .i64 gn, .slice ad8 M.length cap8, .string gd, .int .i64 gy] 39 _ rfl)
          clear hform hzero q1 q2 h0 hse HD
          go_wp2_with fail
          refine (HG.out _ _ _ G8.alloc I8.out.alloc P8.out).mono ?_
          rintro e9 w9 ⟨rfl, hg9⟩
          have G9 : Gr w w9 := G8.alloc.trans hg9
          clear hg9 G8
          go_wp2_with fail
          refine (HA.out _ G9).mono ?_
          rintro e10 w10 ⟨rfl, hg10⟩
          have G10 : Gr w w10 := G9.trans hg10
          go_wp2
          go_ret
          exact ⟨rfl, G10⟩
        · have q1 := hzero h0
          rw [q1]
          have h0b : (Nt.dcE s.data.toList != 0) = true := by simpa using h0
          generalize Nt.dcE s.data.toList = DE at *
          simp only [fmC, Nt.zeroF, Nt.zeroN, List.length_nil]
          clear hform hzero q1 h0 HD HG I8 P8
          go_wp2_with fail
          refine (HZ.out _ _ _).mono ?_
          rintro e9 w9 ⟨rfl, hg9⟩
          have G9 : Gr w w9 := G8.alloc.trans hg9
          clear hg9 G8
          go_wp2_with fail
          refine (HA.out _ G9).mono ?_
          rintro e10 w10 ⟨rfl, hg10⟩
          have G10 : Gr w w10 := G9.trans hg10
          go_wp2
          go_ret
          exact ⟨rfl, G10⟩
    · have hl' : (40000 : Int) < (s.size : Int) := by omega
      clear he hL hn hc hd hf hs hl
      go_enter Tryz.func6, Tryz.ntmps6
      go_wp2_with fail
      refine (HW.out _ ?_).mono ?_
      · exact (by repeat (first | exact Gr.refl _ | refine Gr.alloc ?_ | refine Gr.drew ?_ | refine Gr.trans ?_ (by assumption)))
      rintro e1 w1 ⟨rfl, hg1⟩
      have G1 : Gr w w1 := (by repeat (first | exact Gr.refl _ | refine Gr.alloc ?_ | refine Gr.drew ?_ | refine Gr.trans ?_ (by assumption)))
      go_wp2_with fail
      refine (HA.out _ G1).mono ?_
      rintro e2 w2 ⟨rfl, hg2⟩
      go_wp2
      go_ret
      exact ⟨rfl, G1.trans hg2⟩
  · have hf' : (decide (L.length ≤ 200) && decide (d.size ≤ 10000)) = false := by simpa using hf
    rw [hf'] at HW
    clear he hL hn hc hd hf hf' hs
    go_enter Tryz.func6, Tryz.ntmps6
    go_wp2_with fail
    refine (HW.out _ ?_).mono ?_
    · exact (by repeat (first | exact Gr.refl _ | refine Gr.alloc ?_ | refine Gr.drew ?_ | refine Gr.trans ?_ (by assumption)))
    rintro e1 w1 ⟨rfl, hg1⟩
    have G1 : Gr w w1 := (by repeat (first | exact Gr.refl _ | refine Gr.alloc ?_ | refine Gr.drew ?_ | refine Gr.trans ?_ (by assumption)))
    go_wp2_with fail
    refine (HA.out _ G1).mono ?_
    rintro e2 w2 ⟨rfl, hg2⟩
    go_wp2
    go_ret
    exact ⟨rfl, G1.trans hg2⟩

set_option maxRecDepth 100000 in
theorem noteBack_lifted (os : Os) (started : os.Started) (H : Type) (enc : TypeId × Value → H) :
    ReturnsInHanded {} Tryz.checked os 6 .any (fun w args => (Rows.noteBackSpec.pre enc Tryz.prog Tryz.f6 [] false w args ∧ laidMetH Tryz.prog laidL w) ∧ sizedMet enc Tryz.prog Tryz.f6 (OpenSpec.ofChange Rows.noteBackSpec) false w args)
      (Rows.noteBackSpec.post enc Tryz.prog Tryz.f6 false true false false) := by
  refine returnsInHanded_of_change_and (C := Tryz.checked) (X := fun w _ => laidMetH Tryz.prog laidL w) (fun _ _ _ hh h => h.of_heap hh) own2 started (by kernel_rfl) Tryz.func6
    (ChangeSpec.witness_shaped (enc := enc) (C := Tryz.checked) (os := os) (X := fun w _ => laidMetH Tryz.prog laidL w) false (World.doorLaid Tryz.prog 400 os) #[.agg #[.int .i64 0, .int .i64 0, .int .i64 0, .int .i64 0, .int .i64 0, .int .i64 0, .int .i64 0, .int .i64 0, .int .i64 0, .slice none 0 0, .string ⟨#[]⟩, .int .i64 0], .string ⟨#[]⟩] 8 rfl (World.shaped_of_RefB (by kernel_rfl) (by kernel_rfl)) (by kernel_rfl) (by kernel_rfl) (by kernel_rfl) (door_met os _)) ?_
  intro W base args ds gs before hval0 hW _ hsz0 hL _
  have hval : ∀ (j : Nat) t v, Tryz.f6.params[j]? = some t → args[j]? = some v → Value.okWide Tryz.prog W .any base t v := hval0
  have hsz : (DataW.weightsEach Tryz.prog (Tryz.f6.params.toList ++ Rows.noteBackSpec.plain.varTypes Tryz.prog) (ds ++ gs)).all (· ≤ reachBytes) = true := hsz0
  have hW' := hW
  obtain ⟨p, q, hA0, hV, rfl, hfz, hnd⟩ := hW
  have hA : DataW.TrodAll enc Tryz.prog W 0 (fun _ => true) true Tryz.f6.params.toList args.toList ds p := hA0
  rw [Tryz.params6] at hA hval hsz
  obtain ⟨v0, v1, d0, d1, p0, p1, rfl, rfl, rfl, h0, h1⟩ := trodAll_two hA
  obtain ⟨rfl, rfl⟩ := trodVars_none hV
  have k0 := h0
  have lt0 : ∀ x ∈ p0, x.block < W.heap.size := by obtain ⟨m, hm⟩ := k0; exact DataW.trod_lt m _ _ _ hm
  obtain ⟨x0, ad0, cap0, rfl, hL0, hn0, hc0, hd0⟩ := open_frame (hval 0 39 v0 rfl rfl) h0
  obtain ⟨a1, rfl, rfl, rfl, wa1⟩ := open_string Tryz.underlying9 (hval 1 9 v1 rfl rfl) h1
  have hr1 : a1.size ≤ 140737488355328 := by
    have hr := sized_string hsz (j := 1) (t := 9) rfl rfl
    have : a1.data.toList.length = a1.size := by simp
    simp only [reachBytes] at hr
    omega
  clear hA0 hval0
  have hT := env_of_laid hL
  refine (noteBack_walk x0.f x0.t x0.e x0.s x0.a x0.c x0.n.k x0.n.r x0.n.n x0.n.L x0.n.d x0.n.y ad0 cap0 W hT hL0 hn0 hc0 hd0 a1 hr1).mono fun e W' ⟨he, hg⟩ => ?_
  subst he
  exact ⟨_, rfl, _, _, _, [], _, [], hW', trodAll_mk1 (shut_bool Tryz.underlying4 _), trodAll_mk2 (Below.trod laidOut2 (by kernel_rfl) (of_decide_eq_true (by kernel_rfl)) k0 hg.below lt0) (shut_string Tryz.underlying9 wa1), rfl, hg.below.frame _, fun h => by cases h⟩

theorem noteBack_holds : Rows.NoteBackSaid :=
  OpenClaim.holds_of_wide 6 Tryz.f6 rfl rfl rfl rfl rfl rfl rfl ⟨rfl, rfl, rfl, rfl, rfl⟩ rfl rfl rfl rfl rfl (by kernel_rfl) Tryz.func6 (by kernel_rfl)
    (of_decide_eq_true (by kernel_rfl)) (by unfold Func.isWrapper; first | (rw [if_pos (by decide +kernel)]; kernel_rfl) | (rw [if_neg (by decide +kernel)]; exact ⟨rfl, rfl⟩))
    (fun os started H enc _ => noteBack_lifted os started H enc)

theorem noteBack_card_holds : Rows.NoteBackCardSaid :=
  Claim7.holds_tied_plain_at .later [] [.data, .data, .data, .sentinel, .sentinel, .data, .data] true (true, "f0fa4e2e6549f31233243eab08a94723d74d26bc049039476799d23fce00b93f") true
    noteBack_holds (fun _ h => by cases h) (by kernel_rfl) (fun _ h => by cases h) noteBack_row_tie rfl ⟨rfl, rfl⟩ (by kernel_rfl) rfl
    (fun f fn hf hfn => by
      obtain rfl : f = 6 := Option.some.inj ((show Tryz.prog.funcNamed "entente/ententelaw13.NoteBack" = some 6 by kernel_rfl).symm.trans hf) |>.symm
      obtain rfl : fn = Tryz.f6 := (Option.some.inj (Tryz.func6.symm.trans hfn)).symm
      exact ⟨by kernel_rfl, fun j t ht => by
        rw [Tryz.params6] at ht
        have hm : t ∈ [39, 9] := by simpa using Array.mem_of_getElem? ht
        have hall : ([39, 9].all fun u => !Tryz.prog.wantsStandIn u) = true := by kernel_rfl
        exact (show Tryz.prog.wantsStandIn t = false by simpa using List.all_eq_true.1 hall t hm)⟩)
    (by kernel_rfl)
end Go.Proofs.YtcmbppjfpdkblaaGreatDoor
