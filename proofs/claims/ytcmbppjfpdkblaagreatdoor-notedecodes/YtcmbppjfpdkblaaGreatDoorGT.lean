/- Parts of these proofs, laid together. -/
import Derived.Test.YtcmbppjfpdkblaaGreatDoorGQ
import Derived.Test.YtcmbppjfpdkblaaGreatDoorGF
import Derived.Test.YtcmbppjfpdkblaaGreatDoorGJ
/- note: what Encode answers. -/
namespace Go.Proofs.YtcmbppjfpdkblaaGreatDoor
open Go.RowKit

theorem nms_len (zs : List Int) : (zs.flatMap Nt.nm).length ≤ 10 * zs.length := by
  induction zs with
  | nil => simp
  | cons z zs ih =>
    have := Nt.num_le z
    simp only [List.flatMap_cons, List.length_append, List.length_cons]; omega

set_option maxHeartbeats 1000000 in
set_option maxRecDepth 100000 in
theorem numbers_any (zs : List Int) (g cap : Nat) (w : World) (hc : ∀ j (hj : j < zs.length), w.cell? ⟨g, j, none⟩ = some (.int .i64 zs[j])) (hz : ∀ z ∈ zs, 0 ≤ z ∧ z ≤ 9223372036854775807) (hn : zs.length ≤ 100) :
    Calls Tryz.prog 37 #[.slice (some ⟨g, 0, none⟩) zs.length cap] w fun e w' => e = .returned (.string ⟨(zs.flatMap Nt.nm).toArray⟩) ∧ Gr w w' := by
  have HC : Hid (∀ j (hj : j < zs.length), w.cell? ⟨g, j, none⟩ = some (.int .i64 zs[j])) := hc
  have HZ : Hid (∀ z ∈ zs, 0 ≤ z ∧ z ≤ 9223372036854775807) := hz
  clear hc hz
  go_enter Tryz.func37, Tryz.ntmps37
  go_wp2
  go_loopw [3, 8] (fun o i wr => ∃ k : Nat, k ≤ zs.length ∧ i = .int .i64 k ∧ o = .string ⟨((zs.take k).flatMap Nt.nm).toArray⟩ ∧ Gr w wr) (fun _ i _ => zs.length - (intOf i).toNat)
  case atStart => exact ⟨0, by omega, rfl, rfl, Gr.refl _⟩
  case round =>
    obtain ⟨k, hk, rfl, rfl, hg⟩ := hrel
    by_cases hlt : k < zs.length
    · have hck := hg.keep (HC.out k hlt)
      obtain ⟨z0, z1⟩ := HZ.out zs[k] (List.getElem_mem hlt)
      have hl := nms_len (zs.take k)
      rw [List.length_take] at hl
      have HM : Hid ((zs.take (k + 1)).flatMap Nt.nm = (zs.take k).flatMap Nt.nm ++ Nt.nm zs[k]) := by
        show _ = _
        rw [List.take_succ_eq_append_getElem hlt, List.flatMap_append]; simp
      have HN : Hid (∀ w' : World, Calls Tryz.prog 59 #[.int .u64 zs[k]] w' fun e w2 => e = .returned (.string ⟨(Nt.nm zs[k]).toArray⟩) ∧ Gr w' w2) := by
        intro w'
        have := number_any zs[k].toNat w' (by omega)
        rw [show ((zs[k].toNat : Nat) : Int) = zs[k] by omega] at this
        exact this
      have hl2 := Nt.num_le zs[k]
      have hwr : IntKind.u64.wrap zs[k] = zs[k] := w64 _ z0 (by omega)
      generalize zs[k] = z at *
      generalize (zs.take k).flatMap Nt.nm = acc at *
      generalize Nt.nm z = t at *
      have hadd := add_lists acc t (by omega)
      clear z0 z1 hl hl2
      go_wp2_with fail
      refine (HN.out _).mono ?_
      rintro e1 w1 ⟨rfl, hg1⟩
      go_wp2
      go_roundw
      case rel => exact ⟨k + 1, by omega, by go_num, by rw [HM.out], (by repeat (first | exact Gr.refl _ | refine Gr.alloc ?_ | refine Gr.drew ?_ | refine Gr.trans ?_ (by assumption)))⟩
      case measure => simp [intOf]; omega
    · have hkl : k = zs.length := by omega
      have e : zs.take k = zs := by rw [hkl]; exact List.take_length
      rw [e]
      clear e
      go_wp2
      go_ret
      exact ⟨rfl, hg⟩

theorem new0 (w : World) (x : Value) (t : TypeId) : (w.alloc (.cells #[x] t)).cell? ⟨w.heap.size, 0, none⟩ = some x := by simp
theorem new1 (w : World) (a : Obj) (x : Value) (t : TypeId) : ((w.alloc a).alloc (.cells #[x] t)).cell? ⟨w.heap.size + 1, 0, none⟩ = some x := by simp
theorem keep_drew {w : World} {p : Addr} {v : Value} (h : w.cell? p = some v) : w.drew.cell? p = some v := (Gr.refl w).drew.keep h
theorem keep_alloc {w : World} {p : Addr} {v : Value} {o : Obj} (h : w.cell? p = some v) : (w.alloc o).cell? p = some v := (Gr.refl w).alloc.keep h
theorem one_cell {w : World} {g : Nat} {z : Int} (h : w.cell? ⟨g, 0, none⟩ = some (.int .i64 z)) : ∀ j (hj : j < [z].length), w.cell? ⟨g, j, none⟩ = some (.int .i64 [z][j]) := by
  intro j hj
  match j, hj with
  | 0, _ => exact h

set_option maxHeartbeats 8000000 in
set_option maxRecDepth 100000 in
theorem laidNote_any (k r n : Int) (L : List (Int × Int)) (d : ByteArray) (y : Int) (ad : Option Addr) (cap : Nat) (w : World) (hL : HopsAt w ad L) (he : Env w) (hm : Nt.ntB (⟨k, r, n, L, d, y⟩ : Nt) = true) :
    Calls Tryz.prog 38 #[.agg #[.int .i64 k, .int .i64 r, .int .i64 n, .slice ad L.length cap, .string d, .int .i64 y]] w fun e w' => e = .returned (.string ⟨(Nt.bdN (⟨k, r, n, L, d, y⟩ : Nt)).toArray⟩) ∧ Gr w w' := by
  obtain ⟨hk, hi, h0, hdf, hwy⟩ := Nt.may_note hm
  have hd16 := Nt.may_def hdf
  have hy9 := Nt.may_why hwy
  simp only at hk hi h0 hd16 hy9
  have h4 := may_len hi
  obtain ⟨m1, m2, m3, m4, m5, m6⟩ := may_root hi
  have hsl := show_len r n L m1 m2 m3 m4 m6
  have HS : Hid (∀ w', Gr w w' → Calls Tryz.prog 27 #[.agg #[.int .i64 r, .int .i64 n, .slice ad L.length cap]] w' fun e w2 => e = .returned (.tuple #[.string ⟨(Idn.showT r n L).toArray⟩, .int .i64 0]) ∧ Gr w' w2) := by
    intro w' g
    refine (show_any r n L ad cap w' (hL.gr g) (by omega) (he.gr g)).mono ?_
    rintro e w2 ⟨⟨_, h⟩ | ⟨h, _⟩, hg⟩
    · exact ⟨h, hg⟩
    · rw [hi] at h; cases h
  have HK : Hid (∀ (w' : World) (g : Nat), w'.cell? ⟨g, 0, none⟩ = some (.int .i64 k) → Calls Tryz.prog 37 #[.slice (some ⟨g, 0, none⟩) 1 1] w' fun e w2 => e = .returned (.string ⟨(Nt.nm k).toArray⟩) ∧ Gr w' w2) := by
    intro w' g h
    have := numbers_any [k] g 1 w' (one_cell h) (by simp; omega) (by simp)
    simpa using this
  have HY : Hid (∀ (w' : World) (g : Nat), w'.cell? ⟨g, 0, none⟩ = some (.int .i64 y) → Calls Tryz.prog 37 #[.slice (some ⟨g, 0, none⟩) 1 1] w' fun e w2 => e = .returned (.string ⟨(Nt.nm y).toArray⟩) ∧ Gr w' w2) := by
    intro w' g h
    have := numbers_any [y] g 1 w' (one_cell h) (by simp; omega) (by simp)
    simpa using this
  have HT : Hid (∀ w' : World, Calls Tryz.prog 60 #[.string ⟨(Idn.showT r n L).toArray⟩] w' fun e w2 => e = .returned (.string ⟨(Pk.text (Idn.showT r n L)).toArray⟩) ∧ Gr w' w2) := fun w' => text_any ⟨(Idn.showT r n L).toArray⟩ w' (by simp [ByteArray.size]; omega)
  have HD : Hid (∀ w' : World, Calls Tryz.prog 60 #[.string d] w' fun e w2 => e = .returned (.string ⟨(Pk.text d.data.toList).toArray⟩) ∧ Gr w' w2) := fun w' => text_any d w' (by omega)
  have a1 := Nt.num_le k
  have a2 := Nt.text_le (Idn.showT r n L)
  have a3 := Nt.text_le d.data.toList
  have a4 := Nt.num_le y
  have hsz : d.data.toList.length = d.size := by simp
  have HE : Hid (Nt.bdN (⟨k, r, n, L, d, y⟩ : Nt) = Nt.nm k ++ Pk.text (Idn.showT r n L) ++ Pk.text d.data.toList ++ Nt.nm y) := rfl
  generalize Nt.bdN (⟨k, r, n, L, d, y⟩ : Nt) = R at *
  generalize Nt.nm k = t1 at *
  generalize Pk.text (Idn.showT r n L) = t2 at *
  generalize Pk.text d.data.toList = t3 at *
  generalize Nt.nm y = t4 at *
  have s1 := add_lists t1 t2 (by omega)
  have s2 := add_lists (t1 ++ t2) t3 (by simp; omega)
  have s3 := add_lists (t1 ++ t2 ++ t3) t4 (by simp; omega)
  generalize t1 ++ t2 ++ t3 ++ t4 = u3 at *
  generalize t1 ++ t2 ++ t3 = u2 at *
  generalize t1 ++ t2 = u1 at *
  generalize Idn.showT r n L = st at *
  clear hL he hm hi h0 hdf hwy hd16 hy9 hk h4 m1 m2 m3 m4 m5 m6 hsl a1 a2 a3 a4 hsz
  go_enter Tryz.func38, Tryz.ntmps38
  go_wp2_with fail
  refine (HS.out _ ?_).mono ?_
  · exact (by repeat (first | exact Gr.refl _ | refine Gr.alloc ?_ | refine Gr.drew ?_ | refine Gr.trans ?_ (by assumption)))
  rintro e1 w1 ⟨rfl, hg1⟩
  have B1 := (Cs.new w [.int .i64 k, .int .i64 r, .int .i64 n, .slice ad L.length cap, .string d, .int .i64 y] 26 _ rfl).gr hg1
  have c0 := B1.at_ 0 _ rfl
  have c4 := B1.at_ 4 _ rfl
  have c5 := B1.at_ 5 _ rfl
  have clt := B1.lt
  have hgw : Gr w w1 := (by repeat (first | exact Gr.refl _ | refine Gr.alloc ?_ | refine Gr.drew ?_ | refine Gr.trans ?_ (by assumption)))
  clear hg1 B1
  go_wp2
  go_region_held3 (fun w' => Gr w1 w' ∧ w'.cell? ⟨w.heap.size, 0, none⟩ = some (.int .i64 k) ∧ w'.cell? ⟨w.heap.size, 4, none⟩ = some (.string d) ∧ w'.cell? ⟨w.heap.size, 5, none⟩ = some (.int .i64 y))
    ((go_split_ands; exact ⟨(by repeat (first | exact Gr.refl _ | refine Gr.alloc ?_ | refine Gr.drew ?_ | refine Gr.trans ?_ (by assumption))), Gr.keep (W := w1) (by repeat (first | exact Gr.refl _ | refine Gr.alloc ?_ | refine Gr.drew ?_ | refine Gr.trans ?_ (by assumption))) c0, Gr.keep (W := w1) (by repeat (first | exact Gr.refl _ | refine Gr.alloc ?_ | refine Gr.drew ?_ | refine Gr.trans ?_ (by assumption))) c4, Gr.keep (W := w1) (by repeat (first | exact Gr.refl _ | refine Gr.alloc ?_ | refine Gr.drew ?_ | refine Gr.trans ?_ (by assumption))) c5⟩))
    ((first
      | (go_at_call_of 60 (Value.string d); refine (HD.out _).mono ?_; rintro e w4 ⟨rfl, hg4⟩; go_split_ands)
      | (go_at_call 60; refine (HT.out _).mono ?_; rintro e w3 ⟨rfl, hg3⟩; go_split_ands)
      | (go_at_call 37; refine (HK.out _ _ ?_).mono ?_; (repeat' (first | with_reducible exact new0 _ _ _ | with_reducible exact new1 _ _ _ _ | with_reducible refine keep_drew ?_ | with_reducible refine keep_alloc ?_ | with_reducible refine hg5.keep ?_ | with_reducible refine hg4.keep ?_ | with_reducible refine hg3.keep ?_ | with_reducible refine hg2.keep ?_)); rintro e w2 ⟨rfl, hg2⟩; go_split_ands)
      | (go_at_call 37; refine (HY.out _ _ ?_).mono ?_; (repeat' (first | with_reducible exact new0 _ _ _ | with_reducible exact new1 _ _ _ _ | with_reducible refine keep_drew ?_ | with_reducible refine keep_alloc ?_ | with_reducible refine hg5.keep ?_ | with_reducible refine hg4.keep ?_ | with_reducible refine hg3.keep ?_ | with_reducible refine hg2.keep ?_)); rintro e w5 ⟨rfl, hg5⟩; go_split_ands)))
  all_goals go_wp2
  all_goals go_ret
  all_goals exact ⟨by rw [HE.out]; rfl, (by repeat (first | exact Gr.refl _ | refine Gr.alloc ?_ | refine Gr.drew ?_ | refine Gr.trans ?_ (by assumption)))⟩
set_option maxHeartbeats 4000000 in
set_option maxRecDepth 100000 in
theorem nEncode_any (fr tx ep sq ae ac k r n : Int) (L : List (Int × Int)) (d : ByteArray) (y : Int) (ad : Option Addr) (cap : Nat) (w : World) (hL : HopsAt w ad L) (hn : L.length ≤ 9223372036854775807) (hd : d.size ≤ 9223372036854775807) (hc : L.length ≤ cap) (hT : Tab w) (he : Env w) :
    Calls Tryz.prog 16 #[.agg #[.int .i64 fr, .int .i64 tx, .int .i64 ep, .int .i64 sq, .int .i64 ae, .int .i64 ac, .int .i64 k, .int .i64 r, .int .i64 n, .slice ad L.length cap, .string d, .int .i64 y]] w fun e w' => e = .returned (.tuple #[.string ⟨(Nt.encL (⟨fr, tx, ep, sq, ae, ac, ⟨k, r, n, L, d, y⟩⟩ : Fm)).toArray⟩, .int .i64 (Nt.frE (⟨fr, tx, ep, sq, ae, ac, ⟨k, r, n, L, d, y⟩⟩ : Fm))]) ∧ Gr w w' := by
  have HF : Hid (∀ w', Gr w w' → Calls Tryz.prog 18 #[.agg #[.int .i64 fr, .int .i64 tx, .int .i64 ep, .int .i64 sq, .int .i64 ae, .int .i64 ac, .int .i64 k, .int .i64 r, .int .i64 n, .slice ad L.length cap, .string d, .int .i64 y]] w' fun e w2 => e = .returned (.int .i64 (if Nt.frB (⟨fr, tx, ep, sq, ae, ac, ⟨k, r, n, L, d, y⟩⟩ : Fm) = true then 0 else 130)) ∧ Gr w' w2) := fun w' g => nFrame_any fr tx ep sq ae ac k r n L d y ad cap w' (hL.gr g) hn hd hc
  have HR : Hid (Nt.encL (⟨fr, tx, ep, sq, ae, ac, ⟨k, r, n, L, d, y⟩⟩ : Fm) = if Nt.frB (⟨fr, tx, ep, sq, ae, ac, ⟨k, r, n, L, d, y⟩⟩ : Fm) = true then Sl.frame 1 (Nt.bd (⟨fr, tx, ep, sq, ae, ac, ⟨k, r, n, L, d, y⟩⟩ : Fm)) else []) := rfl
  have HE : Hid (Nt.frE (⟨fr, tx, ep, sq, ae, ac, ⟨k, r, n, L, d, y⟩⟩ : Fm) = if Nt.frB (⟨fr, tx, ep, sq, ae, ac, ⟨k, r, n, L, d, y⟩⟩ : Fm) = true then 0 else 130) := rfl
  generalize Nt.encL (⟨fr, tx, ep, sq, ae, ac, ⟨k, r, n, L, d, y⟩⟩ : Fm) = R at *
  generalize Nt.frE (⟨fr, tx, ep, sq, ae, ac, ⟨k, r, n, L, d, y⟩⟩ : Fm) = E at *
  by_cases hb : Nt.frB (⟨fr, tx, ep, sq, ae, ac, ⟨k, r, n, L, d, y⟩⟩ : Fm) = true
  · rw [if_pos hb] at HF HR HE
    obtain ⟨f1, f2, _, f4, f5, f6, f7, f8⟩ := Nt.may_frame hb
    have hbl := Nt.bd_len _ hb
    simp only at f1 f2 f4 f5 f6 f7
    have H6 : Hid (∀ (w' : World) (g : Nat), Cs w' g [.int .i64 fr, .int .i64 tx, .int .i64 ep, .int .i64 sq, .int .i64 ae, .int .i64 ac] → Calls Tryz.prog 37 #[.slice (some ⟨g, 0, none⟩) 6 6] w' fun e w2 => e = .returned (.string ⟨(Nt.bd6 (⟨fr, tx, ep, sq, ae, ac, ⟨k, r, n, L, d, y⟩⟩ : Fm)).toArray⟩) ∧ Gr w' w2) := by
      intro w' g h
      have := numbers_any [fr, tx, ep, sq, ae, ac] g 6 w' (by
        intro j hj
        match j, hj with
        | 0, _ => exact h.at_ 0 _ rfl
        | 1, _ => exact h.at_ 1 _ rfl
        | 2, _ => exact h.at_ 2 _ rfl
        | 3, _ => exact h.at_ 3 _ rfl
        | 4, _ => exact h.at_ 4 _ rfl
        | 5, _ => exact h.at_ 5 _ rfl) (by simp; omega) (by simp)
      have e : [fr, tx, ep, sq, ae, ac].flatMap Nt.nm = Nt.bd6 (⟨fr, tx, ep, sq, ae, ac, ⟨k, r, n, L, d, y⟩⟩ : Fm) := by simp [Nt.bd6]
      rw [e] at this
      exact this
    have HS : Hid (∀ w', Gr w w' → Calls Tryz.prog 39 #[.int .i64 1, .string ⟨(Nt.bd (⟨fr, tx, ep, sq, ae, ac, ⟨k, r, n, L, d, y⟩⟩ : Fm)).toArray⟩] w' fun e w2 => e = .returned (.tuple #[.string ⟨(Sl.frame 1 (Nt.bd (⟨fr, tx, ep, sq, ae, ac, ⟨k, r, n, L, d, y⟩⟩ : Fm))).toArray⟩, .int .i64 0]) ∧ Gr w' w2) := by
      intro w' g
      have := seal_any 1 ⟨(Nt.bd (⟨fr, tx, ep, sq, ae, ac, ⟨k, r, n, L, d, y⟩⟩ : Fm)).toArray⟩ w' (hT.gr g) (by simp [ByteArray.size]; omega)
      have e : Sl.sealE 1 (⟨(Nt.bd (⟨fr, tx, ep, sq, ae, ac, ⟨k, r, n, L, d, y⟩⟩ : Fm)).toArray⟩ : ByteArray).data.toList = (Sl.frame 1 (Nt.bd (⟨fr, tx, ep, sq, ae, ac, ⟨k, r, n, L, d, y⟩⟩ : Fm)), 0) := by
        show Sl.sealE 1 (Nt.bd (⟨fr, tx, ep, sq, ae, ac, ⟨k, r, n, L, d, y⟩⟩ : Fm)) = _
        unfold Sl.sealE
        rw [if_pos (by decide), if_pos (by omega)]; rfl
      rw [e] at this
      exact this
    have HB : Hid (Nt.bd (⟨fr, tx, ep, sq, ae, ac, ⟨k, r, n, L, d, y⟩⟩ : Fm) = Nt.bd6 (⟨fr, tx, ep, sq, ae, ac, ⟨k, r, n, L, d, y⟩⟩ : Fm) ++ (if sq = 0 then [] else Nt.bdN (⟨k, r, n, L, d, y⟩ : Nt))) := rfl
    by_cases hz : sq = 0
    · rw [if_pos hz, List.append_nil] at HB
      rw [← HB.out] at H6
      generalize Sl.frame 1 (Nt.bd (⟨fr, tx, ep, sq, ae, ac, ⟨k, r, n, L, d, y⟩⟩ : Fm)) = FB at *
      generalize Nt.bd (⟨fr, tx, ep, sq, ae, ac, ⟨k, r, n, L, d, y⟩⟩ : Fm) = BB at *
      subst hz
      clear hL hn hd hc hT he hb f1 f2 f4 f5 f6 f7 f8 hbl HB
      go_enter Tryz.func16, Tryz.ntmps16
      go_wp2_with fail
      refine (HF.out _ ?_).mono ?_
      · exact (by repeat (first | exact Gr.refl _ | refine Gr.alloc ?_ | refine Gr.drew ?_ | refine Gr.trans ?_ (by assumption)))
      rintro e1 w1 ⟨rfl, hg1⟩
      have B1 := (Cs.new w [.int .i64 fr, .int .i64 tx, .int .i64 ep, .int .i64 0, .int .i64 ae, .int .i64 ac, .int .i64 k, .int .i64 r, .int .i64 n, .slice ad L.length cap, .string d, .int .i64 y] 39 _ rfl).gr hg1
      have hgw1 : Gr w w1 := (by repeat (first | exact Gr.refl _ | refine Gr.alloc ?_ | refine Gr.drew ?_ | refine Gr.trans ?_ (by assumption)))
      have c0 := B1.at_ 0 _ rfl
      have c1 := B1.at_ 1 _ rfl
      have c2 := B1.at_ 2 _ rfl
      have c3 := B1.at_ 3 _ rfl
      have c4 := B1.at_ 4 _ rfl
      have c5 := B1.at_ 5 _ rfl
      have c6 := B1.at_ 6 _ rfl
      have c7 := B1.at_ 7 _ rfl
      have c8 := B1.at_ 8 _ rfl
      have c9 := B1.at_ 9 _ rfl
      have c10 := B1.at_ 10 _ rfl
      have c11 := B1.at_ 11 _ rfl
      have clt := B1.lt
      clear hg1
      go_wp2_with fail
      refine (H6.out _ _ ?_).mono ?_
      · exact Cs.new w1 _ _ _ rfl
      rintro e2 w2 ⟨rfl, hg2⟩
      have B2 := (B1.alloc).gr hg2
      have hgw2 : Gr w w2 := hgw1.alloc.trans hg2
      clear c0 c1 c2 c3 c4 c5 c6 c7 c8 c9 c10 c11 clt
      have c0 := B2.at_ 0 _ rfl
      have c1 := B2.at_ 1 _ rfl
      have c2 := B2.at_ 2 _ rfl
      have c3 := B2.at_ 3 _ rfl
      have c4 := B2.at_ 4 _ rfl
      have c5 := B2.at_ 5 _ rfl
      have c6 := B2.at_ 6 _ rfl
      have c7 := B2.at_ 7 _ rfl
      have c8 := B2.at_ 8 _ rfl
      have c9 := B2.at_ 9 _ rfl
      have c10 := B2.at_ 10 _ rfl
      have c11 := B2.at_ 11 _ rfl
      have clt := B2.lt
      clear hg2 B1
      go_wp2_with fail
      refine (HS.out _ hgw2).mono ?_
      rintro e4 w4 ⟨rfl, hg4⟩
      have hgw4 : Gr w w4 := hgw2.trans hg4
      clear hg4
      go_wp2
      go_ret2
      exact ⟨by rw [HR.out, HE.out]; rfl, hgw4⟩
    · rw [if_neg hz] at HB
      have hz' : (sq != 0) = true := by simpa using hz
      obtain ⟨hnt, _, _⟩ := Nt.fn_note f8 hz
      have HN : Hid (∀ w', Gr w w' → Calls Tryz.prog 38 #[.agg #[.int .i64 k, .int .i64 r, .int .i64 n, .slice ad L.length cap, .string d, .int .i64 y]] w' fun e w2 => e = .returned (.string ⟨(Nt.bdN (⟨k, r, n, L, d, y⟩ : Nt)).toArray⟩) ∧ Gr w' w2) := fun w' g => laidNote_any k r n L d y ad cap w' (hL.gr g) (he.gr g) hnt
      have hadd := add_lists (Nt.bd6 (⟨fr, tx, ep, sq, ae, ac, ⟨k, r, n, L, d, y⟩⟩ : Fm)) (Nt.bdN (⟨k, r, n, L, d, y⟩ : Nt)) (by
        have := HB.out
        rw [this, List.length_append] at hbl
        omega)
      rw [← HB.out] at hadd
      generalize Sl.frame 1 (Nt.bd (⟨fr, tx, ep, sq, ae, ac, ⟨k, r, n, L, d, y⟩⟩ : Fm)) = FB at *
      generalize Nt.bd (⟨fr, tx, ep, sq, ae, ac, ⟨k, r, n, L, d, y⟩⟩ : Fm) = BB at *
      generalize Nt.bd6 (⟨fr, tx, ep, sq, ae, ac, ⟨k, r, n, L, d, y⟩⟩ : Fm) = B6 at *
      generalize Nt.bdN (⟨k, r, n, L, d, y⟩ : Nt) = BN at *
      clear hL hn hd hc hT he hb f1 f2 f4 f5 f6 f7 f8 hbl HB hnt
      go_enter Tryz.func16, Tryz.ntmps16
      go_wp2_with fail
      refine (HF.out _ ?_).mono ?_
      · exact (by repeat (first | exact Gr.refl _ | refine Gr.alloc ?_ | refine Gr.drew ?_ | refine Gr.trans ?_ (by assumption)))
      rintro e1 w1 ⟨rfl, hg1⟩
      have B1 := (Cs.new w [.int .i64 fr, .int .i64 tx, .int .i64 ep, .int .i64 sq, .int .i64 ae, .int .i64 ac, .int .i64 k, .int .i64 r, .int .i64 n, .slice ad L.length cap, .string d, .int .i64 y] 39 _ rfl).gr hg1
      have hgw1 : Gr w w1 := (by repeat (first | exact Gr.refl _ | refine Gr.alloc ?_ | refine Gr.drew ?_ | refine Gr.trans ?_ (by assumption)))
      have c0 := B1.at_ 0 _ rfl
      have c1 := B1.at_ 1 _ rfl
      have c2 := B1.at_ 2 _ rfl
      have c3 := B1.at_ 3 _ rfl
      have c4 := B1.at_ 4 _ rfl
      have c5 := B1.at_ 5 _ rfl
      have c6 := B1.at_ 6 _ rfl
      have c7 := B1.at_ 7 _ rfl
      have c8 := B1.at_ 8 _ rfl
      have c9 := B1.at_ 9 _ rfl
      have c10 := B1.at_ 10 _ rfl
      have c11 := B1.at_ 11 _ rfl
      have clt := B1.lt
      clear hg1
      go_wp2_with fail
      refine (H6.out _ _ ?_).mono ?_
      · exact Cs.new w1 _ _ _ rfl
      rintro e2 w2 ⟨rfl, hg2⟩
      have B2 := (B1.alloc).gr hg2
      have hgw2 : Gr w w2 := hgw1.alloc.trans hg2
      clear c0 c1 c2 c3 c4 c5 c6 c7 c8 c9 c10 c11 clt
      have c0 := B2.at_ 0 _ rfl
      have c1 := B2.at_ 1 _ rfl
      have c2 := B2.at_ 2 _ rfl
      have c3 := B2.at_ 3 _ rfl
      have c4 := B2.at_ 4 _ rfl
      have c5 := B2.at_ 5 _ rfl
      have c6 := B2.at_ 6 _ rfl
      have c7 := B2.at_ 7 _ rfl
      have c8 := B2.at_ 8 _ rfl
      have c9 := B2.at_ 9 _ rfl
      have c10 := B2.at_ 10 _ rfl
      have c11 := B2.at_ 11 _ rfl
      have clt := B2.lt
      clear hg2 B1
      go_wp2_with fail
      refine (HN.out _ hgw2).mono ?_
      rintro e3 w3 ⟨rfl, hg3⟩
      have hgw3 : Gr w w3 := hgw2.trans hg3
      clear hg3
      go_wp2_with fail
      refine (HS.out _ hgw3).mono ?_
      rintro e4 w4 ⟨rfl, hg4⟩
      have hgw4 : Gr w w4 := hgw3.trans hg4
      clear hg4
      go_wp2
      go_ret2
      exact ⟨by rw [HR.out, HE.out]; rfl, hgw4⟩
  · rw [if_neg hb] at HF HR HE
    clear hL hn hd hc hT he hb
    go_enter Tryz.func16, Tryz.ntmps16
    go_wp2_with fail
    refine (HF.out _ ?_).mono ?_
    · exact (by repeat (first | exact Gr.refl _ | refine Gr.alloc ?_ | refine Gr.drew ?_ | refine Gr.trans ?_ (by assumption)))
    rintro e1 w1 ⟨rfl, hg1⟩
    go_wp2
    go_ret2
    exact ⟨by rw [HR.out, HE.out]; rfl, (by repeat (first | exact Gr.refl _ | refine Gr.alloc ?_ | refine Gr.drew ?_ | refine Gr.trans ?_ (by assumption)))⟩
end Go.Proofs.YtcmbppjfpdkblaaGreatDoor
