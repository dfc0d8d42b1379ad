/- Parts of these proofs, laid together. -/
import Derived.Test.YtcmbppjfpdkblaaGreatDoorGP
import Derived.Test.YtcmbppjfpdkblaaGreatDoorGJ
import Derived.Test.YtcmbppjfpdkblaaGreatDoorGC
/- note: what Show answers. -/
namespace Go.Proofs.YtcmbppjfpdkblaaGreatDoor
open Go.RowKit

/- the words of the kinds lie there -/
def Words (w : World) : Prop := ∀ j, j < 7 → w.cell? ⟨0, j, none⟩ = some (.string ⟨(Nt.wordL ((j : Int) + 1)).toArray⟩)
theorem Words.gr {w w' : World} (h : Words w) (g : Gr w w') : Words w' := fun j hj => g.keep (h j hj)
theorem word_len (k : Int) : (Nt.wordL k).length ≤ 6 := by
  unfold Nt.wordL
  repeat' split
  all_goals decide

set_option maxHeartbeats 4000000 in
set_option maxRecDepth 100000 in
theorem nShow_any (k r n : Int) (L : List (Int × Int)) (d : ByteArray) (y : Int) (ad : Option Addr) (cap : Nat) (w : World) (hL : HopsAt w ad L) (hn : L.length ≤ 9223372036854775807) (hd : d.size ≤ 9223372036854775807) (hW : Words w) (he : Env w) :
    Calls Tryz.prog 12 #[.agg #[.int .i64 k, .int .i64 r, .int .i64 n, .slice ad L.length cap, .string d, .int .i64 y]] w fun e w' => e = .returned (.tuple #[.string ⟨(Nt.shL (⟨k, r, n, L, d, y⟩ : Nt)).toArray⟩, .int .i64 (Nt.ckE (⟨k, r, n, L, d, y⟩ : Nt))]) ∧ Gr w w' := by
  have HC : Hid (∀ w', Gr w w' → Calls Tryz.prog 14 #[.agg #[.int .i64 k, .int .i64 r, .int .i64 n, .slice ad L.length cap, .string d, .int .i64 y]] w' fun e w2 => e = .returned (.int .i64 (if Nt.ntB (⟨k, r, n, L, d, y⟩ : Nt) = true then 0 else 130)) ∧ Gr w' w2) := fun w' g => nCheck_any k r n L d y ad cap w' (hL.gr g) hn hd
  have HR : Hid (Nt.shL (⟨k, r, n, L, d, y⟩ : Nt) = if Nt.ntB (⟨k, r, n, L, d, y⟩ : Nt) = true then Nt.wordL k ++ [32] ++ Idn.showT r n L ++ (if k = 1 then [32] ++ d.data.toList else if k = 6 then [32] ++ Lib.decDigits y.toNat else []) else []) := rfl
  have HE : Hid (Nt.ckE (⟨k, r, n, L, d, y⟩ : Nt) = if Nt.ntB (⟨k, r, n, L, d, y⟩ : Nt) = true then 0 else 130) := rfl
  generalize Nt.shL (⟨k, r, n, L, d, y⟩ : Nt) = R at *
  generalize Nt.ckE (⟨k, r, n, L, d, y⟩ : Nt) = E at *
  by_cases hb : Nt.ntB (⟨k, r, n, L, d, y⟩ : Nt) = true
  · rw [if_pos hb] at HC HR HE
    obtain ⟨hk, hi, h0, hdf, hwy⟩ := Nt.may_note hb
    have hd16 := Nt.may_def hdf
    have hy9 := Nt.may_why hwy
    simp only at hk hi h0 hd16 hy9
    have h4 := may_len hi
    obtain ⟨m1, m2, m3, m4, m5, m6⟩ := may_root hi
    have hsl := show_len r n L m1 m2 m3 m4 m6
    have HS : Hid (∀ w', Gr w w' → Calls Tryz.prog 27 #[.agg #[.int .i64 r, .int .i64 n, .slice ad L.length cap]] w' fun e w2 => e = .returned (.tuple #[.string ⟨(Idn.showT r n L).toArray⟩, .int .i64 0]) ∧ Gr w' w2) := by
      intro w' g
      refine (show_any r n L ad cap w' (hL.gr g) (by omega) (he.gr g)).mono ?_
      rintro e w2 ⟨⟨_, h⟩ | ⟨h, _⟩, hg⟩
      · exact ⟨h, hg⟩
      · rw [hi] at h; cases h
    have HY : Hid (∀ w', Gr w w' → Calls Tryz.prog 28 #[.int .i64 y] w' fun e w2 => e = .returned (.string ⟨(Lib.decDigits y.toNat).toArray⟩) ∧ Gr w' w2) := by
      intro w' g
      have := itoa_any y.toNat w' (by omega) (he.gr g)
      rw [show ((y.toNat : Nat) : Int) = y by omega] at this
      exact this
    have hdl : (Lib.decDigits y.toNat).length ≤ 1 := digs_len y.toNat 0 (by omega)
    obtain ⟨j, hj7, rfl⟩ : ∃ j : Nat, j < 7 ∧ k = (j : Int) + 1 := ⟨(k - 1).toNat, by omega, by omega⟩
    have hwl := word_len ((j : Int) + 1)
    have HW : Hid (∀ w', Gr w w' → w'.cell? ⟨0, j, none⟩ = some (.string ⟨(Nt.wordL ((j : Int) + 1)).toArray⟩)) := fun w' g => g.keep (hW j hj7)
    have hsz : d.data.toList.length = d.size := by simp
    generalize Nt.wordL ((j : Int) + 1) = wd at *
    generalize Idn.showT r n L = st at *
    have s1 := add_lists wd [32] (by simp; omega)
    have s2 := add_lists (wd ++ [32]) st (by simp; omega)
    have t1 := add_lists [32] d.data.toList (by simp; omega)
    rw [mk_data] at t1
    have t2 := add_lists (wd ++ [32] ++ st) ([32] ++ d.data.toList) (by simp; omega)
    have r1 := add_lists [32] (Lib.decDigits y.toNat) (by simp; omega)
    have r2 := add_lists (wd ++ [32] ++ st) ([32] ++ Lib.decDigits y.toNat) (by simp; omega)
    generalize Lib.decDigits y.toNat = dy at *
    generalize wd ++ [32] ++ st = u2 at *
    generalize wd ++ [32] = u1 at *
    have hj1 : (j : Int) + 1 - 1 = (j : Int) := by omega
    by_cases k1 : (j : Int) + 1 = 1
    · have hj0 : j = 0 := by omega
      subst hj0
      rw [if_pos (by simp)] at HR
      generalize [32] ++ d.data.toList = td at *
      generalize u2 ++ td = uz at *
      clear hL hn hd hW he hb hk hi h0 hdf hwy hd16 hy9 h4 m1 m2 m3 m4 m5 m6 hsl hdl hwl hsz r1 r2
      go_enter Tryz.func12, Tryz.ntmps12
      go_wp2_with fail
      refine (HC.out _ ?_).mono ?_
      · exact (by repeat (first | exact Gr.refl _ | refine Gr.alloc ?_ | refine Gr.drew ?_ | refine Gr.trans ?_ (by assumption)))
      rintro e1 w1 ⟨rfl, hg1⟩
      have B1 := (Cs.new w [.int .i64 1, .int .i64 r, .int .i64 n, .slice ad L.length cap, .string d, .int .i64 y] 26 _ rfl).gr hg1
      have c0 := B1.at_ 0 _ rfl
      have c1 := B1.at_ 1 _ rfl
      have c2 := B1.at_ 2 _ rfl
      have c3 := B1.at_ 3 _ rfl
      have clt := B1.lt
      go_wp2_with fail
      refine (HS.out _ ?_).mono ?_
      · exact (by repeat (first | exact Gr.refl _ | refine Gr.alloc ?_ | refine Gr.drew ?_ | refine Gr.trans ?_ (by assumption)))
      rintro e2 w2 ⟨rfl, hg2⟩
      have B2 := B1.gr hg2
      have hgw2 : Gr w w2 := (by repeat (first | exact Gr.refl _ | refine Gr.alloc ?_ | refine Gr.drew ?_ | refine Gr.trans ?_ (by assumption)))
      clear c0 c1 c2 c3 clt
      have c0 := B2.at_ 0 _ rfl
      have c4 := B2.at_ 4 _ rfl
      have c5 := B2.at_ 5 _ rfl
      have clt := B2.lt
      have hwd := HW.out w2 hgw2
      go_wp2
      go_ret2
      exact ⟨by rw [HR.out, HE.out]; rfl, (by repeat (first | exact Gr.refl _ | refine Gr.alloc ?_ | refine Gr.drew ?_ | refine Gr.trans ?_ (by assumption)))⟩
    · have k1' : ((j : Int) + 1 == 1) = false := by simpa using k1
      rw [if_neg k1] at HR
      by_cases k6 : (j : Int) + 1 = 6
      · have hj0 : j = 5 := by omega
        subst hj0
        rw [if_pos (by simp)] at HR
        generalize [32] ++ dy = td at *
        generalize u2 ++ td = uz at *
        clear hL hn hd hW he hb hk hi h0 hdf hwy hd16 hy9 h4 m1 m2 m3 m4 m5 m6 hsl hdl hwl hsz t1 t2
        go_enter Tryz.func12, Tryz.ntmps12
        go_wp2_with fail
        refine (HC.out _ ?_).mono ?_
        · exact (by repeat (first | exact Gr.refl _ | refine Gr.alloc ?_ | refine Gr.drew ?_ | refine Gr.trans ?_ (by assumption)))
        rintro e1 w1 ⟨rfl, hg1⟩
        have B1 := (Cs.new w [.int .i64 6, .int .i64 r, .int .i64 n, .slice ad L.length cap, .string d, .int .i64 y] 26 _ rfl).gr hg1
        have c0 := B1.at_ 0 _ rfl
        have c1 := B1.at_ 1 _ rfl
        have c2 := B1.at_ 2 _ rfl
        have c3 := B1.at_ 3 _ rfl
        have clt := B1.lt
        go_wp2_with fail
        refine (HS.out _ ?_).mono ?_
        · exact (by repeat (first | exact Gr.refl _ | refine Gr.alloc ?_ | refine Gr.drew ?_ | refine Gr.trans ?_ (by assumption)))
        rintro e2 w2 ⟨rfl, hg2⟩
        have B2 := B1.gr hg2
        have hgw2 : Gr w w2 := (by repeat (first | exact Gr.refl _ | refine Gr.alloc ?_ | refine Gr.drew ?_ | refine Gr.trans ?_ (by assumption)))
        clear c0 c1 c2 c3 clt
        have c0 := B2.at_ 0 _ rfl
        have c4 := B2.at_ 4 _ rfl
        have c5 := B2.at_ 5 _ rfl
        have clt := B2.lt
        have hwd := HW.out w2 hgw2
        go_wp2_with fail
        refine (HY.out _ ?_).mono ?_
        · exact hgw2
        rintro e3 w3 ⟨rfl, hg3⟩
        go_wp2
        go_ret2
        exact ⟨by rw [HR.out, HE.out]; rfl, (by repeat (first | exact Gr.refl _ | refine Gr.alloc ?_ | refine Gr.drew ?_ | refine Gr.trans ?_ (by assumption)))⟩
      · have k6' : ((j : Int) + 1 == 6) = false := by simpa using k6
        rw [if_neg k6, List.append_nil] at HR
        clear hL hn hd hW he hb hk hi h0 hdf hwy hd16 hy9 h4 m1 m2 m3 m4 m5 m6 hsl hdl hwl hsz t1 t2 r1 r2
        go_enter Tryz.func12, Tryz.ntmps12
        go_wp2_with fail
        refine (HC.out _ ?_).mono ?_
        · exact (by repeat (first | exact Gr.refl _ | refine Gr.alloc ?_ | refine Gr.drew ?_ | refine Gr.trans ?_ (by assumption)))
        rintro e1 w1 ⟨rfl, hg1⟩
        have B1 := (Cs.new w [.int .i64 ((j : Int) + 1), .int .i64 r, .int .i64 n, .slice ad L.length cap, .string d, .int .i64 y] 26 _ rfl).gr hg1
        have c0 := B1.at_ 0 _ rfl
        have c1 := B1.at_ 1 _ rfl
        have c2 := B1.at_ 2 _ rfl
        have c3 := B1.at_ 3 _ rfl
        have clt := B1.lt
        go_wp2_with fail
        refine (HS.out _ ?_).mono ?_
        · exact (by repeat (first | exact Gr.refl _ | refine Gr.alloc ?_ | refine Gr.drew ?_ | refine Gr.trans ?_ (by assumption)))
        rintro e2 w2 ⟨rfl, hg2⟩
        have B2 := B1.gr hg2
        have hgw2 : Gr w w2 := (by repeat (first | exact Gr.refl _ | refine Gr.alloc ?_ | refine Gr.drew ?_ | refine Gr.trans ?_ (by assumption)))
        clear c0 c1 c2 c3 clt
        have c0 := B2.at_ 0 _ rfl
        have c4 := B2.at_ 4 _ rfl
        have c5 := B2.at_ 5 _ rfl
        have clt := B2.lt
        have hwd := HW.out w2 hgw2
        go_wp2
        go_ret2
        exact ⟨by rw [HR.out, HE.out]; rfl, (by repeat (first | exact Gr.refl _ | refine Gr.alloc ?_ | refine Gr.drew ?_ | refine Gr.trans ?_ (by assumption)))⟩
  · rw [if_neg hb] at HC HR HE
    clear hL hn hd hW he hb
    go_enter Tryz.func12, Tryz.ntmps12
    go_wp2_with fail
    refine (HC.out _ ?_).mono ?_
    · exact (by repeat (first | exact Gr.refl _ | refine Gr.alloc ?_ | refine Gr.drew ?_ | refine Gr.trans ?_ (by assumption)))
    rintro e1 w1 ⟨rfl, hg1⟩
    go_wp2
    go_ret2
    exact ⟨by rw [HR.out, HE.out]; rfl, (by repeat (first | exact Gr.refl _ | refine Gr.alloc ?_ | refine Gr.drew ?_ | refine Gr.trans ?_ (by assumption)))⟩
end Go.Proofs.YtcmbppjfpdkblaaGreatDoor
