/- pot: Total; and the document's. -/
import Derived.Test.YtjifhfnigngcjaaPotP
import Derived.Test.YtjifhfnigngcjaaRowA
import Derived.Test.YtjifhfnigngcjaaCashS
import Derived.Test.YtjifhfnigngcjaaCashR
import Derived.Test.YtjifhfnigngcjaaCashO
namespace Go.Proofs.Ytjifhfnigngcjaa
open Go.RowKit

def mayT (t : Three) : Bool := Pot.mayB t.h t.i t.o
def hsT (T : List Three) : List Int := T.map Three.h
theorem hsT_len (T : List Three) : (hsT T).length = T.length := by unfold hsT; rw [List.length_map]
def totV (T : List Three) : Int := if T.all mayT = true then Csh.valE (Csh.sumE (hsT T)) else 0
def totE (T : List Three) : Int := if T.all mayT = true then Csh.errE (Csh.sumE (hsT T)) else 2

set_option maxHeartbeats 2000000 in
set_option maxRecDepth 100000 in
theorem total_any (T : List Three) (ad : Option Addr) (cap : Nat) (w : World) (hT : PotsAt w ad T) (hn : T.length ≤ 5000) (hr : ∀ t ∈ T, (-9223372036854775808 ≤ t.h ∧ t.h ≤ 9223372036854775807) ∧ t.o ≤ 9223372036854775807) :
    Calls Try.prog 22 #[.slice ad T.length cap] w fun e w' => e = .returned (.tuple #[.int .i64 (totV T), .int .i64 (totE T)]) ∧ Gr w w' := by
  have HT : Hid (PotsAt w ad T) := hT
  have HR : Hid (∀ t ∈ T, (-9223372036854775808 ≤ t.h ∧ t.h ≤ 9223372036854775807) ∧ t.o ≤ 9223372036854775807) := hr
  clear hT hr
  obtain ⟨i0, hi, hz0, hz1, hz2⟩ := info_parts infoI64
  go_enter Try.func22, Try.ntmps22
  go_wp2
  go_loopw [4, 9] (fun p i wr => ∃ k : Nat, k ≤ T.length ∧ i = .int .i64 k ∧ (T.take k).all mayT = true ∧ wr.ownsRow w.heap.size 2 1 p k (intV (hsT (T.take k))) ∧ Below w.heap.size w wr)
    (fun _ i _ => T.length - (intOf i).toNat)
  case atStart => exact ⟨0, by omega, rfl, rfl, ⟨rfl, Or.inl ⟨rfl, rfl⟩⟩, Below.refl _ _⟩
  case round =>
    obtain ⟨k, hk, rfl, hall, hown, hb⟩ := hrel
    have HA : Hid ((T.take k).all mayT = true) := hall
    clear hall
    have hbs := hb.size
    by_cases hlt : k < T.length
    · obtain ⟨b, off, rfl, hbl, c0, c1, c2⟩ := HT.out k hlt
      have hg : Gr w wr := ⟨hb⟩
      have d0 := hg.keep c0
      have d1 := hg.keep c1
      have d2 := hg.keep c2
      have hz := HR.out T[k] (List.getElem_mem hlt)
      have HK : Hid (T.take (k + 1) = T.take k ++ [T[k]]) := List.take_succ_eq_append_getElem hlt
      have HD : Hid (T = T.take k ++ T[k] :: T.drop (k + 1)) := by
        show _ = _
        rw [← List.drop_eq_getElem_cons hlt, List.take_append_drop]
      obtain ⟨⟨h, i, o⟩, ht⟩ : ∃ t, T[k] = t := ⟨_, rfl⟩
      rw [ht] at d0 d1 d2 hz HK HD
      simp only at d0 d1 d2 hz
      have HM : Hid (∀ w', Calls Try.prog 25 #[.agg #[.int .i64 h, .int .i64 i, .int .i64 o]] w' fun e w2 => e = .returned (.bool (Pot.mayB h i o)) ∧ Gr w' w2) := fun w' => mayBe_any h i o w' hz.2 hz.1.2
      have hbw : b < wr.heap.size := Nat.lt_of_lt_of_le hbl hg.size
      clear c0 c1 c2 ht hz
      cases hm : Pot.mayB h i o with
      | false =>
        rw [hm] at HM
        have HF : Hid (T.all mayT = false) := by
          show _ = _
          rw [HD.out, List.all_append, List.all_cons]
          have : mayT ⟨h, i, o⟩ = false := hm
          rw [this]; simp
        clear hm HK HD HA hown
        go_wp2_with fail
        refine (HM.out _).mono ?_
        rintro e w1 ⟨rfl, hg1⟩
        go_wp2
        go_ret2
        exact ⟨by unfold totV totE; rw [HF.out]; rfl, (by repeat (first | exact Gr.refl _ | refine Gr.alloc ?_ | refine Gr.drew ?_ | refine Gr.trans ?_ (by assumption)))⟩
      | true =>
        rw [hm] at HM
        have HP : Hid (intV (hsT (T.take (k + 1))) = intV (hsT (T.take k)) ++ [.int .i64 h]) := by
          show _ = _
          rw [HK.out]
          unfold hsT
          rw [List.map_append]
          exact intV_snoc _ _
        have HN : Hid ((T.take (k + 1)).all mayT = true) := by
          show _ = _
          rw [HK.out, List.all_append, HA.out]
          simp [mayT, hm]
        clear hm HK HD HA
        have hm1 : k + 1 ≤ maxLen := by unfold maxLen; omega
        go_wp2_with fail
        refine (HM.out _).mono ?_
        rintro e w1 ⟨rfl, hg1⟩
        have hown1 := (hown.alloc (.cells #[.int .i64 h, .int .i64 i, .int .i64 o] 23)).kept hg1.grownBy (own_or _)
        obtain ⟨p0, p1, p2, _, _, _, p6⟩ := (BoxAt.new wr _ _ _ _ _ rfl).gr hg1
        have hb1 : Below w.heap.size w w1 := (hg.trans ((Gr.refl wr).alloc.trans hg1)).below
        have hs1 := hb1.size
        clear hown hg1 hb
        go_wp2_with (first
          | (at_builtin; refine wpList_append_own _ rfl _ _ 51 rfl w.heap.size 2 i0 (.int .i64 0) 1 8 Try.underlying51 hi hz0 hz1 hz2 rfl (by decide) _ _ _ rfl (hown1.alloc _) ⟨w1.heap.size, 0, none⟩ 1 1 [.int .i64 h] rfl rfl (cell_one_at _ _ _ _ (by simp)) (by intro u hu; simp at hu; subst hu; rfl) hm1 (by omega) (by simp; omega) ?_)
          | fail)
        intro v' w2 hown' hgrow _
        go_wp2
        go_roundw
        case rel =>
          exact ⟨k + 1, by omega, by go_num, HN.out, by rw [HP.out]; exact hown', (hb1.alloc hs1 _).grown hgrow (by simp; omega) (fun k hk => (hown1.lt k hk).1)⟩
        case measure => simp [intOf]; omega
    · have hkl : T.take k = T := List.take_of_length_le (by omega)
      have hke : k = (hsT T).length := by rw [hsT_len]; omega
      rw [hkl] at hown
      have HE : Hid (T.all mayT = true) := by show _ = _; rw [← HA.out, hkl]
      rw [hke] at hown
      obtain ⟨ad2, cap2, rfl, hcp, hia⟩ := own_ints hown
      have HS : Hid (Calls Try.prog 30 #[.slice ad2 (hsT T).length cap2] wr fun e w' => e = .returned (.tuple #[.int .i64 (Csh.valE (Csh.sumE (hsT T))), .int .i64 (Csh.errE (Csh.sumE (hsT T)))]) ∧ w' = wr) := by
        refine sum_any (hsT T) ad2 cap2 wr hia (by rw [hsT_len]; omega) ?_
        intro a ha
        obtain ⟨t, ht, rfl⟩ := List.mem_map.1 ha
        exact (HR.out t ht).1
      have HG : Hid (Gr w wr) := ⟨hb⟩
      clear hown hia hb hbs hcp hke hkl HA
      generalize (hsT T).length = m at *
      go_wp2_with fail
      refine HS.out.mono ?_
      rintro e w2 ⟨rfl, hw2⟩; obtain rfl := hw2.symm
      go_wp2
      go_ret2
      exact ⟨by unfold totV totE; rw [HE.out]; rfl, HG.out⟩
set_option maxHeartbeats 2000000 in
set_option maxRecDepth 100000 in
theorem refTotal_any (T : List Three) (ad : Option Addr) (cap : Nat) (w : World) (hT : PotsAt w ad T) (hn : T.length ≤ 5000) (hr : ∀ t ∈ T, (-9223372036854775808 ≤ t.h ∧ t.h ≤ 9223372036854775807) ∧ t.o ≤ 9223372036854775807) :
    Calls Try.prog 23 #[.slice ad T.length cap] w fun e w' => e = .returned (.tuple #[.int .i64 (totV T), .int .i64 (totE T)]) ∧ Gr w w' := by
  have HT : Hid (PotsAt w ad T) := hT
  have HR : Hid (∀ t ∈ T, (-9223372036854775808 ≤ t.h ∧ t.h ≤ 9223372036854775807) ∧ t.o ≤ 9223372036854775807) := hr
  clear hT hr
  obtain ⟨i0, hi, hz0, hz1, hz2⟩ := info_parts infoI64
  go_enter Try.func23, Try.ntmps23
  go_wp2
  go_loopw [4, 5] (fun p i wr => ∃ k : Nat, k ≤ T.length ∧ i = .int .i64 k ∧ (T.take k).all mayT = true ∧ wr.ownsRow w.heap.size 2 1 p k (intV (hsT (T.take k))) ∧ Below w.heap.size w wr)
    (fun _ i _ => T.length - (intOf i).toNat)
  case atStart => exact ⟨0, by omega, rfl, rfl, ⟨rfl, Or.inl ⟨rfl, rfl⟩⟩, Below.refl _ _⟩
  case round =>
    obtain ⟨k, hk, rfl, hall, hown, hb⟩ := hrel
    have HA : Hid ((T.take k).all mayT = true) := hall
    clear hall
    have hbs := hb.size
    by_cases hlt : k < T.length
    · obtain ⟨b, off, rfl, hbl, c0, c1, c2⟩ := HT.out k hlt
      have hg : Gr w wr := ⟨hb⟩
      have d0 := hg.keep c0
      have d1 := hg.keep c1
      have d2 := hg.keep c2
      have hz := HR.out T[k] (List.getElem_mem hlt)
      have HK : Hid (T.take (k + 1) = T.take k ++ [T[k]]) := List.take_succ_eq_append_getElem hlt
      have HD : Hid (T = T.take k ++ T[k] :: T.drop (k + 1)) := by
        show _ = _
        rw [← List.drop_eq_getElem_cons hlt, List.take_append_drop]
      obtain ⟨⟨h, i, o⟩, ht⟩ : ∃ t, T[k] = t := ⟨_, rfl⟩
      rw [ht] at d0 d1 d2 hz HK HD
      simp only at d0 d1 d2 hz
      have HM : Hid (∀ w', Calls Try.prog 10 #[.agg #[.int .i64 h, .int .i64 i, .int .i64 o]] w' fun e w2 => e = .returned (.int .i64 (if Pot.mayB h i o = true then 0 else 2)) ∧ Gr w' w2) := fun w' => refCheck_any h i o w'
      have hbw : b < wr.heap.size := Nat.lt_of_lt_of_le hbl hg.size
      clear c0 c1 c2 ht hz
      cases hm : Pot.mayB h i o with
      | false =>
        rw [hm] at HM
        have HF : Hid (T.all mayT = false) := by
          show _ = _
          rw [HD.out, List.all_append, List.all_cons]
          have : mayT ⟨h, i, o⟩ = false := hm
          rw [this]; simp
        clear hm HK HD HA hown
        go_wp2_with fail
        refine (HM.out _).mono ?_
        rintro e w1 ⟨rfl, hg1⟩
        go_wp2
        go_ret2
        exact ⟨by unfold totV totE; rw [HF.out]; rfl, (by repeat (first | exact Gr.refl _ | refine Gr.alloc ?_ | refine Gr.drew ?_ | refine Gr.trans ?_ (by assumption)))⟩
      | true =>
        rw [hm] at HM
        have HP : Hid (intV (hsT (T.take (k + 1))) = intV (hsT (T.take k)) ++ [.int .i64 h]) := by
          show _ = _
          rw [HK.out]
          unfold hsT
          rw [List.map_append]
          exact intV_snoc _ _
        have HN : Hid ((T.take (k + 1)).all mayT = true) := by
          show _ = _
          rw [HK.out, List.all_append, HA.out]
          simp [mayT, hm]
        clear hm HK HD HA
        have hm1 : k + 1 ≤ maxLen := by unfold maxLen; omega
        go_wp2_with fail
        refine (HM.out _).mono ?_
        rintro e w1 ⟨rfl, hg1⟩
        have hown1 := hown.kept hg1.grownBy (own_or _)
        have f0 := hg1.keep d0
        have hbw1 : b < w1.heap.size := Nat.lt_of_lt_of_le hbw hg1.size
        have hb1 : Below w.heap.size w w1 := (hg.trans hg1).below
        have hs1 := hb1.size
        clear hown hg1 hb
        go_wp2_with (first
          | (at_builtin; refine wpList_append_own _ rfl _ _ 51 rfl w.heap.size 2 i0 (.int .i64 0) 1 8 Try.underlying51 hi hz0 hz1 hz2 rfl (by decide) _ _ _ rfl (hown1.alloc _) ⟨w1.heap.size, 0, none⟩ 1 1 [.int .i64 h] rfl rfl (cell_one_at _ _ _ _ (by simp)) (by intro u hu; simp at hu; subst hu; rfl) hm1 (by omega) (by simp; omega) ?_)
          | fail)
        intro v' w2 hown' hgrow _
        go_wp2
        go_roundw
        case rel =>
          exact ⟨k + 1, by omega, by go_num, HN.out, by rw [HP.out]; exact hown', (hb1.alloc hs1 _).grown hgrow (by simp; omega) (fun k hk => (hown1.lt k hk).1)⟩
        case measure => simp [intOf]; omega
    · have hkl : T.take k = T := List.take_of_length_le (by omega)
      have hke : k = (hsT T).length := by rw [hsT_len]; omega
      rw [hkl] at hown
      have HE : Hid (T.all mayT = true) := by show _ = _; rw [← HA.out, hkl]
      rw [hke] at hown
      obtain ⟨ad2, cap2, rfl, hcp, hia⟩ := own_ints hown
      have HS : Hid (Calls Try.prog 31 #[.slice ad2 (hsT T).length cap2] wr fun e w' => e = .returned (.tuple #[.int .i64 (Csh.valE (Csh.sumE (hsT T))), .int .i64 (Csh.errE (Csh.sumE (hsT T)))]) ∧ w' = wr) := by
        refine refSum_any (hsT T) ad2 cap2 wr hia (by rw [hsT_len]; omega) ?_
        intro a ha
        obtain ⟨t, ht, rfl⟩ := List.mem_map.1 ha
        exact (HR.out t ht).1
      have HG : Hid (Gr w wr) := ⟨hb⟩
      clear hown hia hb hbs hcp hke hkl HA
      generalize (hsT T).length = m at *
      go_wp2_with fail
      refine HS.out.mono ?_
      rintro e w2 ⟨rfl, hw2⟩; obtain rfl := hw2.symm
      go_wp2
      go_ret2
      exact ⟨by unfold totV totE; rw [HE.out]; rfl, HG.out⟩
end Go.Proofs.Ytjifhfnigngcjaa
