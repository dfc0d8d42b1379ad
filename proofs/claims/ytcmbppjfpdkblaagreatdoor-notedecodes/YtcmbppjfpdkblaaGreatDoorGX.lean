/- Parts of these proofs, laid together. -/
import Derived.Test.YtcmbppjfpdkblaaGreatDoorGW
import Derived.Test.YtcmbppjfpdkblaaGreatDoorGH
import Derived.Test.YtcmbppjfpdkblaaGreatDoorGL
/- The document's Encode. -/
namespace Go.Proofs.YtcmbppjfpdkblaaGreatDoor
open Go.RowKit

set_option maxHeartbeats 400000 in
theorem rNum_any (z : Int) (w : World) (h0 : 0 ≤ z) (h1 : z ≤ 9223372036854775807) :
    Calls Tryz.prog 40 #[.int .i64 z] w fun e w' => e = .returned (.string ⟨(Nt.nm z).toArray⟩) ∧ Gr w w' := by
  have HN : Hid (∀ w' : World, Calls Tryz.prog 64 #[.int .u64 z] w' fun e w2 => e = .returned (.string ⟨(Nt.nm z).toArray⟩) ∧ Gr w' w2) := by
    intro w'
    have := refNumber_any 9 z.toNat w' (by omega) (by omega) (by omega)
    rw [show ((z.toNat : Nat) : Int) = z by omega] at this
    exact this
  have hwr : IntKind.u64.wrap z = z := w64 _ h0 (by omega)
  clear h0 h1
  go_enter Tryz.func40, Tryz.ntmps40
  go_wp2_with fail
  refine (HN.out _).mono ?_
  rintro e1 w1 ⟨rfl, hg1⟩
  go_wp2
  go_ret
  exact ⟨rfl, (by repeat (first | exact Gr.refl _ | refine Gr.alloc ?_ | refine Gr.drew ?_ | refine Gr.trans ?_ (by assumption)))⟩

set_option maxHeartbeats 20000000 in
set_option maxRecDepth 100000 in
theorem rEncode_any (fr tx ep sq ae ac k r n : Int) (L : List (Int × Int)) (d : ByteArray) (y : Int) (ad : Option Addr) (cap : Nat) (w : World) (hL : HopsAt w ad L) (hn : L.length ≤ 9223372036854775807) (hd : d.size ≤ 9223372036854775807) :
    Calls Tryz.prog 17 #[.agg #[.int .i64 fr, .int .i64 tx, .int .i64 ep, .int .i64 sq, .int .i64 ae, .int .i64 ac, .int .i64 k, .int .i64 r, .int .i64 n, .slice ad L.length cap, .string d, .int .i64 y]] w fun e w' => e = .returned (.tuple #[.string ⟨(Nt.encL (⟨fr, tx, ep, sq, ae, ac, ⟨k, r, n, L, d, y⟩⟩ : Fm)).toArray⟩, .int .i64 (Nt.frE (⟨fr, tx, ep, sq, ae, ac, ⟨k, r, n, L, d, y⟩⟩ : Fm))]) ∧ Gr w w' := by
  have HF : Hid (∀ w', Gr w w' → Calls Tryz.prog 19 #[.agg #[.int .i64 fr, .int .i64 tx, .int .i64 ep, .int .i64 sq, .int .i64 ae, .int .i64 ac, .int .i64 k, .int .i64 r, .int .i64 n, .slice ad L.length cap, .string d, .int .i64 y]] w' fun e w2 => e = .returned (.int .i64 (if Nt.frB (⟨fr, tx, ep, sq, ae, ac, ⟨k, r, n, L, d, y⟩⟩ : Fm) = true then 0 else 130)) ∧ Gr w' w2) := fun w' g => refNFrame_any fr tx ep sq ae ac k r n L d y ad cap w' (hL.gr g) hn hd
  have HR : Hid (Nt.encL (⟨fr, tx, ep, sq, ae, ac, ⟨k, r, n, L, d, y⟩⟩ : Fm) = if Nt.frB (⟨fr, tx, ep, sq, ae, ac, ⟨k, r, n, L, d, y⟩⟩ : Fm) = true then Sl.frame 1 (Nt.bd (⟨fr, tx, ep, sq, ae, ac, ⟨k, r, n, L, d, y⟩⟩ : Fm)) else []) := rfl
  have HE : Hid (Nt.frE (⟨fr, tx, ep, sq, ae, ac, ⟨k, r, n, L, d, y⟩⟩ : Fm) = if Nt.frB (⟨fr, tx, ep, sq, ae, ac, ⟨k, r, n, L, d, y⟩⟩ : Fm) = true then 0 else 130) := rfl
  generalize Nt.encL (⟨fr, tx, ep, sq, ae, ac, ⟨k, r, n, L, d, y⟩⟩ : Fm) = R at *
  generalize Nt.frE (⟨fr, tx, ep, sq, ae, ac, ⟨k, r, n, L, d, y⟩⟩ : Fm) = E at *
  by_cases hb : Nt.frB (⟨fr, tx, ep, sq, ae, ac, ⟨k, r, n, L, d, y⟩⟩ : Fm) = true
  · rw [if_pos hb] at HF HR HE
    obtain ⟨f1, f2, _, f4, f5, f6, f7, f8⟩ := Nt.may_frame hb
    have hbl := Nt.bd_len _ hb
    simp only at f1 f2 f4 f5 f6 f7
    have HS : Hid (∀ w', Calls Tryz.prog 42 #[.int .i64 1, .string ⟨(Nt.bd (⟨fr, tx, ep, sq, ae, ac, ⟨k, r, n, L, d, y⟩⟩ : Fm)).toArray⟩] w' fun e w2 => e = .returned (.tuple #[.string ⟨(Sl.frame 1 (Nt.bd (⟨fr, tx, ep, sq, ae, ac, ⟨k, r, n, L, d, y⟩⟩ : Fm))).toArray⟩, .int .i64 0]) ∧ Gr w' w2) := by
      intro w'
      have := refSeal_any 1 ⟨(Nt.bd (⟨fr, tx, ep, sq, ae, ac, ⟨k, r, n, L, d, y⟩⟩ : Fm)).toArray⟩ w' (by simp [ByteArray.size]; omega)
      have e : Sl.sealE 1 (⟨(Nt.bd (⟨fr, tx, ep, sq, ae, ac, ⟨k, r, n, L, d, y⟩⟩ : Fm)).toArray⟩ : ByteArray).data.toList = (Sl.frame 1 (Nt.bd (⟨fr, tx, ep, sq, ae, ac, ⟨k, r, n, L, d, y⟩⟩ : Fm)), 0) := by
        show Sl.sealE 1 (Nt.bd (⟨fr, tx, ep, sq, ae, ac, ⟨k, r, n, L, d, y⟩⟩ : Fm)) = _
        unfold Sl.sealE
        rw [if_pos (by decide), if_pos (by omega)]; rfl
      rw [e] at this
      exact this
    have HB : Hid (Nt.bd (⟨fr, tx, ep, sq, ae, ac, ⟨k, r, n, L, d, y⟩⟩ : Fm) = Nt.nm fr ++ Nt.nm tx ++ Nt.nm ep ++ Nt.nm sq ++ Nt.nm ae ++ Nt.nm ac ++ (if sq = 0 then [] else Nt.bdN (⟨k, r, n, L, d, y⟩ : Nt))) := rfl
    have N0 : Hid (∀ w' : World, Calls Tryz.prog 40 #[.int .i64 fr] w' fun e w2 => e = .returned (.string ⟨(Nt.nm fr).toArray⟩) ∧ Gr w' w2) := fun w' => rNum_any fr w' (by omega) (by omega)
    have l0 := Nt.num_le fr
    have N1 : Hid (∀ w' : World, Calls Tryz.prog 40 #[.int .i64 tx] w' fun e w2 => e = .returned (.string ⟨(Nt.nm tx).toArray⟩) ∧ Gr w' w2) := fun w' => rNum_any tx w' (by omega) (by omega)
    have l1 := Nt.num_le tx
    have N2 : Hid (∀ w' : World, Calls Tryz.prog 40 #[.int .i64 ep] w' fun e w2 => e = .returned (.string ⟨(Nt.nm ep).toArray⟩) ∧ Gr w' w2) := fun w' => rNum_any ep w' (by omega) (by omega)
    have l2 := Nt.num_le ep
    have N3 : Hid (∀ w' : World, Calls Tryz.prog 40 #[.int .i64 sq] w' fun e w2 => e = .returned (.string ⟨(Nt.nm sq).toArray⟩) ∧ Gr w' w2) := fun w' => rNum_any sq w' (by omega) (by omega)
    have l3 := Nt.num_le sq
    have N4 : Hid (∀ w' : World, Calls Tryz.prog 40 #[.int .i64 ae] w' fun e w2 => e = .returned (.string ⟨(Nt.nm ae).toArray⟩) ∧ Gr w' w2) := fun w' => rNum_any ae w' (by omega) (by omega)
    have l4 := Nt.num_le ae
    have N5 : Hid (∀ w' : World, Calls Tryz.prog 40 #[.int .i64 ac] w' fun e w2 => e = .returned (.string ⟨(Nt.nm ac).toArray⟩) ∧ Gr w' w2) := fun w' => rNum_any ac w' (by omega) (by omega)
    have l5 := Nt.num_le ac
    by_cases hz : sq = 0
    · rw [if_pos hz, List.append_nil] at HB
      generalize Nt.nm fr = x0 at *
      generalize Nt.nm tx = x1 at *
      generalize Nt.nm ep = x2 at *
      generalize Nt.nm sq = x3 at *
      generalize Nt.nm ae = x4 at *
      generalize Nt.nm ac = x5 at *
      generalize Sl.frame 1 (Nt.bd (⟨fr, tx, ep, sq, ae, ac, ⟨k, r, n, L, d, y⟩⟩ : Fm)) = FB at *
      generalize Nt.bd (⟨fr, tx, ep, sq, ae, ac, ⟨k, r, n, L, d, y⟩⟩ : Fm) = BB at *
      have s1 := add_lists (x0) x1 (by ((try simp only [List.length_append]); omega))
      have s2 := add_lists (x0 ++ x1) x2 (by ((try simp only [List.length_append]); omega))
      have s3 := add_lists (x0 ++ x1 ++ x2) x3 (by ((try simp only [List.length_append]); omega))
      have s4 := add_lists (x0 ++ x1 ++ x2 ++ x3) x4 (by ((try simp only [List.length_append]); omega))
      have s5 := add_lists (x0 ++ x1 ++ x2 ++ x3 ++ x4) x5 (by ((try simp only [List.length_append]); omega))
      rw [← HB.out] at s5
      generalize x0 ++ x1 ++ x2 ++ x3 ++ x4 = u4 at *
      generalize x0 ++ x1 ++ x2 ++ x3 = u3 at *
      generalize x0 ++ x1 ++ x2 = u2 at *
      generalize x0 ++ x1 = u1 at *
      subst hz
      clear hL hn hd hb f1 f2 f4 f5 f6 f7 f8 hbl HB l0 l1 l2 l3 l4 l5
      go_enter Tryz.func17, Tryz.ntmps17
      go_wp2_with fail
      refine (HF.out _ ?_).mono ?_
      · exact (by repeat (first | exact Gr.refl _ | refine Gr.alloc ?_ | refine Gr.drew ?_ | refine Gr.trans ?_ (by assumption)))
      rintro e1 w1 ⟨rfl, hg1⟩
      have B1 := (Cs.new w [.int .i64 fr, .int .i64 tx, .int .i64 ep, .int .i64 0, .int .i64 ae, .int .i64 ac, .int .i64 k, .int .i64 r, .int .i64 n, .slice ad L.length cap, .string d, .int .i64 y] 39 _ rfl).gr hg1
      have hgw : Gr w w1 := (by repeat (first | exact Gr.refl _ | refine Gr.alloc ?_ | refine Gr.drew ?_ | refine Gr.trans ?_ (by assumption)))
      have c0 := B1.at_ 0 _ rfl
      have c1 := B1.at_ 1 _ rfl
      have c2 := B1.at_ 2 _ rfl
      have c3 := B1.at_ 3 _ rfl
      have c4 := B1.at_ 4 _ rfl
      have c5 := B1.at_ 5 _ rfl
      have clt := B1.lt
      clear hg1
      go_wp2
      go_region_held3 (fun w' => Gr w1 w' ∧ w'.cell? ⟨w.heap.size, 0, none⟩ = some (.int .i64 fr) ∧ w'.cell? ⟨w.heap.size, 1, none⟩ = some (.int .i64 tx) ∧ w'.cell? ⟨w.heap.size, 2, none⟩ = some (.int .i64 ep) ∧ w'.cell? ⟨w.heap.size, 3, none⟩ = some (.int .i64 0) ∧ w'.cell? ⟨w.heap.size, 4, none⟩ = some (.int .i64 ae) ∧ w'.cell? ⟨w.heap.size, 5, none⟩ = some (.int .i64 ac))
        ((go_split_ands; exact ⟨(by repeat (first | exact Gr.refl _ | refine Gr.alloc ?_ | refine Gr.drew ?_ | refine Gr.trans ?_ (by assumption))), Gr.keep (W := w1) (by repeat (first | exact Gr.refl _ | refine Gr.alloc ?_ | refine Gr.drew ?_ | refine Gr.trans ?_ (by assumption))) c0, Gr.keep (W := w1) (by repeat (first | exact Gr.refl _ | refine Gr.alloc ?_ | refine Gr.drew ?_ | refine Gr.trans ?_ (by assumption))) c1, Gr.keep (W := w1) (by repeat (first | exact Gr.refl _ | refine Gr.alloc ?_ | refine Gr.drew ?_ | refine Gr.trans ?_ (by assumption))) c2, Gr.keep (W := w1) (by repeat (first | exact Gr.refl _ | refine Gr.alloc ?_ | refine Gr.drew ?_ | refine Gr.trans ?_ (by assumption))) c3, Gr.keep (W := w1) (by repeat (first | exact Gr.refl _ | refine Gr.alloc ?_ | refine Gr.drew ?_ | refine Gr.trans ?_ (by assumption))) c4, Gr.keep (W := w1) (by repeat (first | exact Gr.refl _ | refine Gr.alloc ?_ | refine Gr.drew ?_ | refine Gr.trans ?_ (by assumption))) c5⟩))
        ((first | (go_at_call_of 40 (Value.int IntKind.i64 fr); refine (N0.out _).mono ?_; rintro e v0 ⟨rfl, hv0⟩; go_split_ands) | (go_at_call_of 40 (Value.int IntKind.i64 tx); refine (N1.out _).mono ?_; rintro e v1 ⟨rfl, hv1⟩; go_split_ands) | (go_at_call_of 40 (Value.int IntKind.i64 ep); refine (N2.out _).mono ?_; rintro e v2 ⟨rfl, hv2⟩; go_split_ands) | (go_at_call_of 40 (Value.int IntKind.i64 0); refine (N3.out _).mono ?_; rintro e v3 ⟨rfl, hv3⟩; go_split_ands) | (go_at_call_of 40 (Value.int IntKind.i64 ae); refine (N4.out _).mono ?_; rintro e v4 ⟨rfl, hv4⟩; go_split_ands) | (go_at_call_of 40 (Value.int IntKind.i64 ac); refine (N5.out _).mono ?_; rintro e v5 ⟨rfl, hv5⟩; go_split_ands)))
      have hgv : Gr w1 v5 := (by repeat (first | exact Gr.refl _ | refine Gr.alloc ?_ | refine Gr.drew ?_ | refine Gr.trans ?_ (by assumption)))
      have B2 := B1.gr hgv
      have hgw2 : Gr w v5 := hgw.trans hgv
      clear c0 c1 c2 c3 c4 c5 clt B1
      have clt := B2.lt
      have c3 := B2.at_ 3 _ rfl
      have c6 := B2.at_ 6 _ rfl
      have c7 := B2.at_ 7 _ rfl
      have c8 := B2.at_ 8 _ rfl
      have c9 := B2.at_ 9 _ rfl
      have c10 := B2.at_ 10 _ rfl
      have c11 := B2.at_ 11 _ rfl
      go_wp2_with fail
      refine (HS.out _).mono ?_
      rintro e9 w9 ⟨rfl, hg9⟩
      have hgz : Gr w w9 := hgw2.trans hg9
      go_wp2
      go_ret2
      exact ⟨by rw [HR.out, HE.out]; rfl, hgz⟩
    · rw [if_neg hz] at HB
      have hz' : (sq != 0) = true := by simpa using hz
      obtain ⟨hnt, _, _⟩ := Nt.fn_note f8 hz
      obtain ⟨hk, hi, h0, hdf, hwy⟩ := Nt.may_note hnt
      have hd16 := Nt.may_def hdf
      have hy9 := Nt.may_why hwy
      simp only at hk hi h0 hd16 hy9
      have h4 := may_len hi
      obtain ⟨m1, m2, m3, m4, m5, m6⟩ := may_root hi
      have hsl := show_len r n L m1 m2 m3 m4 m6
      have HW : Hid (∀ w', Gr w w' → Calls Tryz.prog 29 #[.agg #[.int .i64 r, .int .i64 n, .slice ad L.length cap]] w' fun e w2 => e = .returned (.tuple #[.string ⟨(Idn.showT r n L).toArray⟩, .int .i64 0]) ∧ Gr w' w2) := by
        intro w' g
        refine (refShow_any r n L ad cap w' (hL.gr g) (by omega)).mono ?_
        rintro e w2 ⟨⟨_, h⟩ | ⟨h, _⟩, hg⟩
        · exact ⟨h, hg⟩
        · rw [hi] at h; cases h
      have N6 : Hid (∀ w' : World, Calls Tryz.prog 40 #[.int .i64 k] w' fun e w2 => e = .returned (.string ⟨(Nt.nm k).toArray⟩) ∧ Gr w' w2) := fun w' => rNum_any k w' (by omega) (by omega)
      have N7 : Hid (∀ w' : World, Calls Tryz.prog 41 #[.string ⟨(Idn.showT r n L).toArray⟩] w' fun e w2 => e = .returned (.string ⟨(Pk.text (Idn.showT r n L)).toArray⟩) ∧ Gr w' w2) := fun w' => refText_any ⟨(Idn.showT r n L).toArray⟩ w' (by simp [ByteArray.size]; omega)
      have N8 : Hid (∀ w' : World, Calls Tryz.prog 41 #[.string d] w' fun e w2 => e = .returned (.string ⟨(Pk.text d.data.toList).toArray⟩) ∧ Gr w' w2) := fun w' => refText_any d w' (by omega)
      have N9 : Hid (∀ w' : World, Calls Tryz.prog 40 #[.int .i64 y] w' fun e w2 => e = .returned (.string ⟨(Nt.nm y).toArray⟩) ∧ Gr w' w2) := fun w' => rNum_any y w' (by omega) (by omega)
      have l6 := Nt.num_le k
      have l7 := Nt.text_le (Idn.showT r n L)
      have l8 := Nt.text_le d.data.toList
      have l9 := Nt.num_le y
      have hsz : d.data.toList.length = d.size := by simp
      have HB2 : Hid (Nt.bd (⟨fr, tx, ep, sq, ae, ac, ⟨k, r, n, L, d, y⟩⟩ : Fm) = Nt.nm fr ++ Nt.nm tx ++ Nt.nm ep ++ Nt.nm sq ++ Nt.nm ae ++ Nt.nm ac ++ Nt.nm k ++ Pk.text (Idn.showT r n L) ++ Pk.text d.data.toList ++ Nt.nm y) := by
        show _ = _
        rw [HB.out]; simp [Nt.bdN]
      generalize Nt.nm fr = x0 at *
      generalize Nt.nm tx = x1 at *
      generalize Nt.nm ep = x2 at *
      generalize Nt.nm sq = x3 at *
      generalize Nt.nm ae = x4 at *
      generalize Nt.nm ac = x5 at *
      generalize Nt.nm k = x6 at *
      generalize Pk.text (Idn.showT r n L) = x7 at *
      generalize Pk.text d.data.toList = x8 at *
      generalize Nt.nm y = x9 at *
      generalize Sl.frame 1 (Nt.bd (⟨fr, tx, ep, sq, ae, ac, ⟨k, r, n, L, d, y⟩⟩ : Fm)) = FB at *
      generalize Nt.bd (⟨fr, tx, ep, sq, ae, ac, ⟨k, r, n, L, d, y⟩⟩ : Fm) = BB at *
      have s1 := add_lists (x0) x1 (by ((try simp only [List.length_append]); omega))
      have s2 := add_lists (x0 ++ x1) x2 (by ((try simp only [List.length_append]); omega))
      have s3 := add_lists (x0 ++ x1 ++ x2) x3 (by ((try simp only [List.length_append]); omega))
      have s4 := add_lists (x0 ++ x1 ++ x2 ++ x3) x4 (by ((try simp only [List.length_append]); omega))
      have s5 := add_lists (x0 ++ x1 ++ x2 ++ x3 ++ x4) x5 (by ((try simp only [List.length_append]); omega))
      have s6 := add_lists (x0 ++ x1 ++ x2 ++ x3 ++ x4 ++ x5) x6 (by ((try simp only [List.length_append]); omega))
      have s7 := add_lists (x0 ++ x1 ++ x2 ++ x3 ++ x4 ++ x5 ++ x6) x7 (by ((try simp only [List.length_append]); omega))
      have s8 := add_lists (x0 ++ x1 ++ x2 ++ x3 ++ x4 ++ x5 ++ x6 ++ x7) x8 (by ((try simp only [List.length_append]); omega))
      have s9 := add_lists (x0 ++ x1 ++ x2 ++ x3 ++ x4 ++ x5 ++ x6 ++ x7 ++ x8) x9 (by ((try simp only [List.length_append]); omega))
      rw [← HB2.out] at s9
      generalize x0 ++ x1 ++ x2 ++ x3 ++ x4 ++ x5 ++ x6 ++ x7 ++ x8 = u8 at *
      generalize x0 ++ x1 ++ x2 ++ x3 ++ x4 ++ x5 ++ x6 ++ x7 = u7 at *
      generalize x0 ++ x1 ++ x2 ++ x3 ++ x4 ++ x5 ++ x6 = u6 at *
      generalize x0 ++ x1 ++ x2 ++ x3 ++ x4 ++ x5 = u5 at *
      generalize x0 ++ x1 ++ x2 ++ x3 ++ x4 = u4 at *
      generalize x0 ++ x1 ++ x2 ++ x3 = u3 at *
      generalize x0 ++ x1 ++ x2 = u2 at *
      generalize x0 ++ x1 = u1 at *
      generalize Idn.showT r n L = st at *
      clear hL hn hd hb f1 f2 f4 f5 f6 f7 f8 hbl HB HB2 l0 l1 l2 l3 l4 l5 l6 l7 l8 l9 hsz hsl m1 m2 m3 m4 m5 m6 h4 hd16 hy9 hnt hk hi h0 hdf hwy hz
      go_enter Tryz.func17, Tryz.ntmps17
      go_wp2_with fail
      refine (HF.out _ ?_).mono ?_
      · exact (by repeat (first | exact Gr.refl _ | refine Gr.alloc ?_ | refine Gr.drew ?_ | refine Gr.trans ?_ (by assumption)))
      rintro e1 w1 ⟨rfl, hg1⟩
      have B1 := (Cs.new w [.int .i64 fr, .int .i64 tx, .int .i64 ep, .int .i64 sq, .int .i64 ae, .int .i64 ac, .int .i64 k, .int .i64 r, .int .i64 n, .slice ad L.length cap, .string d, .int .i64 y] 39 _ rfl).gr hg1
      have hgw : Gr w w1 := (by repeat (first | exact Gr.refl _ | refine Gr.alloc ?_ | refine Gr.drew ?_ | refine Gr.trans ?_ (by assumption)))
      have c0 := B1.at_ 0 _ rfl
      have c1 := B1.at_ 1 _ rfl
      have c2 := B1.at_ 2 _ rfl
      have c3 := B1.at_ 3 _ rfl
      have c4 := B1.at_ 4 _ rfl
      have c5 := B1.at_ 5 _ rfl
      have clt := B1.lt
      clear hg1
      go_wp2
      go_region_held3 (fun w' => Gr w1 w' ∧ w'.cell? ⟨w.heap.size, 0, none⟩ = some (.int .i64 fr) ∧ w'.cell? ⟨w.heap.size, 1, none⟩ = some (.int .i64 tx) ∧ w'.cell? ⟨w.heap.size, 2, none⟩ = some (.int .i64 ep) ∧ w'.cell? ⟨w.heap.size, 3, none⟩ = some (.int .i64 sq) ∧ w'.cell? ⟨w.heap.size, 4, none⟩ = some (.int .i64 ae) ∧ w'.cell? ⟨w.heap.size, 5, none⟩ = some (.int .i64 ac))
        ((go_split_ands; exact ⟨(by repeat (first | exact Gr.refl _ | refine Gr.alloc ?_ | refine Gr.drew ?_ | refine Gr.trans ?_ (by assumption))), Gr.keep (W := w1) (by repeat (first | exact Gr.refl _ | refine Gr.alloc ?_ | refine Gr.drew ?_ | refine Gr.trans ?_ (by assumption))) c0, Gr.keep (W := w1) (by repeat (first | exact Gr.refl _ | refine Gr.alloc ?_ | refine Gr.drew ?_ | refine Gr.trans ?_ (by assumption))) c1, Gr.keep (W := w1) (by repeat (first | exact Gr.refl _ | refine Gr.alloc ?_ | refine Gr.drew ?_ | refine Gr.trans ?_ (by assumption))) c2, Gr.keep (W := w1) (by repeat (first | exact Gr.refl _ | refine Gr.alloc ?_ | refine Gr.drew ?_ | refine Gr.trans ?_ (by assumption))) c3, Gr.keep (W := w1) (by repeat (first | exact Gr.refl _ | refine Gr.alloc ?_ | refine Gr.drew ?_ | refine Gr.trans ?_ (by assumption))) c4, Gr.keep (W := w1) (by repeat (first | exact Gr.refl _ | refine Gr.alloc ?_ | refine Gr.drew ?_ | refine Gr.trans ?_ (by assumption))) c5⟩))
        ((first | (go_at_call_of 40 (Value.int IntKind.i64 fr); refine (N0.out _).mono ?_; rintro e v0 ⟨rfl, hv0⟩; go_split_ands) | (go_at_call_of 40 (Value.int IntKind.i64 tx); refine (N1.out _).mono ?_; rintro e v1 ⟨rfl, hv1⟩; go_split_ands) | (go_at_call_of 40 (Value.int IntKind.i64 ep); refine (N2.out _).mono ?_; rintro e v2 ⟨rfl, hv2⟩; go_split_ands) | (go_at_call_of 40 (Value.int IntKind.i64 sq); refine (N3.out _).mono ?_; rintro e v3 ⟨rfl, hv3⟩; go_split_ands) | (go_at_call_of 40 (Value.int IntKind.i64 ae); refine (N4.out _).mono ?_; rintro e v4 ⟨rfl, hv4⟩; go_split_ands) | (go_at_call_of 40 (Value.int IntKind.i64 ac); refine (N5.out _).mono ?_; rintro e v5 ⟨rfl, hv5⟩; go_split_ands)))
      have hgv : Gr w1 v5 := (by repeat (first | exact Gr.refl _ | refine Gr.alloc ?_ | refine Gr.drew ?_ | refine Gr.trans ?_ (by assumption)))
      have B2 := B1.gr hgv
      have hgw2 : Gr w v5 := hgw.trans hgv
      clear c0 c1 c2 c3 c4 c5 clt B1
      have clt := B2.lt
      have c3 := B2.at_ 3 _ rfl
      have c6 := B2.at_ 6 _ rfl
      have c7 := B2.at_ 7 _ rfl
      have c8 := B2.at_ 8 _ rfl
      have c9 := B2.at_ 9 _ rfl
      have c10 := B2.at_ 10 _ rfl
      have c11 := B2.at_ 11 _ rfl
      clear hv0 hv1 hv2 hv3 hv4 hv5 hgv hgw
      go_wp2_with fail
      refine (HW.out _ hgw2).mono ?_
      rintro e6 w6 ⟨rfl, hg6⟩
      have B3 := B2.gr hg6
      have hgw3 : Gr w w6 := hgw2.trans hg6
      clear c3 c6 c7 c8 c9 c10 c11 clt hg6 B2 hgw2
      have clt := B3.lt
      have c6 := B3.at_ 6 _ rfl
      have c10 := B3.at_ 10 _ rfl
      have c11 := B3.at_ 11 _ rfl
      go_wp2
      go_region_held3 (fun w' => Gr w6 w' ∧ w'.cell? ⟨w.heap.size, 6, none⟩ = some (.int .i64 k) ∧ w'.cell? ⟨w.heap.size, 10, none⟩ = some (.string d) ∧ w'.cell? ⟨w.heap.size, 11, none⟩ = some (.int .i64 y))
        ((go_split_ands; exact ⟨(by repeat (first | exact Gr.refl _ | refine Gr.alloc ?_ | refine Gr.drew ?_ | refine Gr.trans ?_ (by assumption))), Gr.keep (W := w6) (by repeat (first | exact Gr.refl _ | refine Gr.alloc ?_ | refine Gr.drew ?_ | refine Gr.trans ?_ (by assumption))) c6, Gr.keep (W := w6) (by repeat (first | exact Gr.refl _ | refine Gr.alloc ?_ | refine Gr.drew ?_ | refine Gr.trans ?_ (by assumption))) c10, Gr.keep (W := w6) (by repeat (first | exact Gr.refl _ | refine Gr.alloc ?_ | refine Gr.drew ?_ | refine Gr.trans ?_ (by assumption))) c11⟩))
        ((first | (go_at_call_of 40 (Value.int IntKind.i64 k); refine (N6.out _).mono ?_; rintro e v6 ⟨rfl, hv6⟩; go_split_ands) | (go_at_call_of 41 (Value.string d); refine (N8.out _).mono ?_; rintro e v8 ⟨rfl, hv8⟩; go_split_ands) | (go_at_call 41; refine (N7.out _).mono ?_; rintro e v7 ⟨rfl, hv7⟩; go_split_ands) | (go_at_call_of 40 (Value.int IntKind.i64 y); refine (N9.out _).mono ?_; rintro e v9 ⟨rfl, hv9⟩; go_split_ands)))
      have hgw4 : Gr w v9 := hgw3.trans (by repeat (first | exact Gr.refl _ | refine Gr.alloc ?_ | refine Gr.drew ?_ | refine Gr.trans ?_ (by assumption)))
      go_wp2_with fail
      refine (HS.out _).mono ?_
      rintro e9 w9 ⟨rfl, hg9⟩
      have hgz : Gr w w9 := hgw4.trans hg9
      go_wp2
      go_ret2
      exact ⟨by rw [HR.out, HE.out]; rfl, hgz⟩
  · rw [if_neg hb] at HF HR HE
    clear hL hn hd hb
    go_enter Tryz.func17, Tryz.ntmps17
    go_wp2_with fail
    refine (HF.out _ ?_).mono ?_
    · exact (by repeat (first | exact Gr.refl _ | refine Gr.alloc ?_ | refine Gr.drew ?_ | refine Gr.trans ?_ (by assumption)))
    rintro e1 w1 ⟨rfl, hg1⟩
    go_wp2
    go_ret2
    exact ⟨by rw [HR.out, HE.out]; rfl, (by repeat (first | exact Gr.refl _ | refine Gr.alloc ?_ | refine Gr.drew ?_ | refine Gr.trans ?_ (by assumption)))⟩
end Go.Proofs.YtcmbppjfpdkblaaGreatDoor
