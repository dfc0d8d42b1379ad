/- For every input the law BookBack answers true: a book is read as it was written; what is read is a book, and is read again out of its text, if it has one. The listed variables hold what the program's text lays. -/
import Derived.Test.YtfobfpigbfepoaaDoorTLBBack20
import Derived.Test.YtfobfpigbfepoaaDoorTie
import Derived.Test.YtfobfpigbfepoaaDoorCards
import Derived.Stop.LaidErr
import Derived.Lib.LaidTab
import Derived.SevenTiedAt
namespace Go.Proofs.YtfobfpigbfepoaaDoor
open Go.ChangeShapes Go.WideShapes Go.ChangeAt Go.RowKit
abbrev laidL : List (String × DataW Unit) := [("math/bits.deBruijn32tab", Rows.laid_math_bits_deBruijn32tab), ("math/bits.deBruijn64tab", Rows.laid_math_bits_deBruijn64tab), ("internal/strconv.uint64pow10", Rows.laid_internal_strconv_uint64pow10)]
theorem door_met (os : Os) (args : Array Value) : laidMetH Tryd.prog laidL ((World.doorLaid Tryd.prog 400 os).forCall (fun _ _ => 0) ⟨#[], args, []⟩).memory :=
  laidMetH_of_parts3 (fuel := 8) (laidMet_of_run' 8 (by kernel_rfl) (by kernel_rfl)) (by kernel_rfl) (by kernel_rfl)
theorem env_of_laid {W : World} (h : laidMetH Tryd.prog laidL W) : Env W := by
  rw [MakeChecks.laidMetH_plain _ _ _ (by kernel_rfl)] at h
  exact ⟨Lib.tabIs_of_head (zs := Lib.pow10Tab) (k := .u64) (by kernel_rfl : Tryd.prog.globalNamed "internal/strconv.uint64pow10" = some 1) (by kernel_rfl : (Tryd.prog.globals[1]?).map (·.type) = some 136) Tryd.underlying136 Tryd.underlying125 (by kernel_rfl) (by kernel_rfl) h.tail.tail⟩
end Go.Proofs.YtfobfpigbfepoaaDoor
namespace Go.Proofs.YtfobfpigbfepoaaDoor
open Go.ChangeShapes Go.WideShapes Go.ChangeAt Go.RowKit
open Go.ChangeMaps (open_string shut_string)
theorem read_back {D : List Bk.Dn} (h : bsZ D = 0) (w : World) : Calls Tryd.prog 7 #[.string (bsT D)] w fun e w' => ∃ p, ReR w D 0 p e w' := by
  have e : bsT D = ⟨(bkT D).toArray⟩ := by unfold bsT; rw [if_pos h]
  have hl : (bkT D).length ≤ 2000 := by
    unfold bsZ at h
    split at h
    · split at h
      · cases h
      · omega
    · cases h
  have := read_any (bsT D) w (by rw [e]; show (bkT D).toArray.size ≤ _; rw [List.size_toArray]; omega)
  rw [show (bsT D).data.toList = bkT D by rw [e], (read_shown h).1, (read_shown h).2] at this
  exact this.mono (fun e w' h => ⟨_, h⟩)
set_option maxHeartbeats 8000000 in
set_option maxRecDepth 100000 in
theorem bookBack_walk (D : List Dm) (s : ByteArray) (ad : Option Addr) (cap : Nat) (w : World) (he : Env w) (hB : BkAt w ad D) (hn : D.length ≤ 9223372036854775807) (hs : s.size ≤ 9223372036854775807) :
    Calls Tryd.prog 3 #[.slice ad D.length cap, .string s] w fun e w' => e = .returned (.bool true) ∧ Gr w w' := by
  have HA : Hid (∀ w', Calls Tryd.prog 5 #[] w' fun e w2 => e = .returned (.bool true) ∧ Gr w' w2) := fun w' => awake10_any w'
  have HF : Hid (∀ w', Gr w w' → Calls Tryd.prog 4 #[.slice ad D.length cap] w' fun e w2 => e = .returned (.bool (fewB D)) ∧ Gr w' w2) := fun w' g => few10_any D ad cap w' (hB.row.gr g) hn (fun d hd => (hB.rng d hd).2.1)
  have HS : Hid (∀ w', Gr w w' → Calls Tryd.prog 6 #[.slice ad D.length cap] w' fun e w2 => e = .returned (.tuple #[.string (bsT (dns D)), .int .i64 (bsZ (dns D))]) ∧ Gr w' w2) := fun w' g => show10_any D ad cap w' (hB.gr g) hn (he.gr g)
  have HRs : Hid (∀ w', Calls Tryd.prog 7 #[.string s] w' fun e w2 => ReR w' (Bk.rD s.data.toList) (Bk.rE s.data.toList) (Bk.rA s.data.toList) e w2) := fun w' => read_any s w' hs
  have HRt : Hid (bsZ (dns D) = 0 → ∀ w', Calls Tryd.prog 7 #[.string (bsT (dns D))] w' fun e w2 => ∃ p, ReR w' (dns D) 0 p e w2) := fun h w' => read_back h w'
  have HSm : Hid (∀ (R1 R2 : List Dm) (a1 : Option Addr) (c1 : Nat) (a2 : Option Addr) (c2 : Nat) w', BkAt w' a1 R1 → BkAt w' a2 R2 → dns R1 = dns R2 → R1.length ≤ 9223372036854775807 → Calls Tryd.prog 8 #[.slice a1 R1.length c1, .slice a2 R2.length c2] w' fun e w2 => e = .returned (.bool true) ∧ Gr w' w2) := by
    intro R1 R2 a1 c1 a2 c2 w' h1 h2 he hl
    have := refSame10_any R1 R2 a1 c1 a2 c2 w' h1 h2 hl
    rw [he, eqB_refl] at this
    exact this
  have HD := Lib.hid hB
  have HEn := Lib.hid he
  clear hB he
  cases hf : fewB D with
  | false =>
    rw [hf] at HF
    go_enter Tryd.func3, Tryd.ntmps3
    go_wp2_with fail
    refine (HF.out w (Gr.refl w)).mono ?_
    rintro e w1 ⟨rfl, hg1⟩
    go_wp2_with fail
    refine (HA.out _).mono ?_
    rintro e w2 ⟨rfl, hg2⟩
    go_wp2
    go_ret
    exact ⟨rfl, (by repeat (first | exact Gr.refl _ | refine Gr.alloc ?_ | refine Gr.drew ?_ | refine Gr.trans ?_ (by assumption)))⟩
  | true =>
    rw [hf] at HF
    by_cases hz : bsZ (dns D) = 0
    · have HR0 := Lib.hid (HRt.out hz)
      rw [hz] at HS
      generalize bsT (dns D) = TT at *
      clear hf hz HRt
      go_enter Tryd.func3, Tryd.ntmps3
      go_wp2_with fail
      refine (HF.out w (Gr.refl w)).mono ?_
      rintro e w1 ⟨rfl, hg1⟩
      go_wp2_with fail
      refine (HS.out _ (by repeat (first | exact Gr.refl _ | refine Gr.alloc ?_ | refine Gr.drew ?_ | refine Gr.trans ?_ (by assumption)))).mono ?_
      rintro e w2 ⟨rfl, hg2⟩
      have HG2 : Hid (Gr w w2) := (by repeat (first | exact Gr.refl _ | refine Gr.alloc ?_ | refine Gr.drew ?_ | refine Gr.trans ?_ (by assumption)))
      clear hg1 hg2
      go_wp2_with fail
      refine (HR0.out _).mono ?_
      rintro e w3 ⟨p3, a3, c3, R3, rfl, hb3, hd3, hg3⟩
      obtain ⟨a3', c3', e3, hl3, hc3, hk3, _⟩ := hb3.at
      cases e3
      have hR3 : R3.length ≤ 9223372036854775807 := by omega
      have gF3 : Gr w3 (w3.alloc (.cells #[.int .i64 0, .int .i64 p3] 29)) := (Gr.refl w3).alloc
      have HG3 : Hid (Gr w (w3.alloc (.cells #[.int .i64 0, .int .i64 p3] 29))) := (HG2.out.trans hg3).trans gF3
      have HL3 := Lib.hid (hk3.gr gF3)
      obtain ⟨q0, q1, _, _, ql⟩ := TwoAt.new w3 (.int .i64 0) (.int .i64 p3) 29 _ rfl
      have HE3 : Hid (dns R3 = dns D) := hd3
      clear hb3 hk3 hg3 hd3 gF3
      go_wp2_with fail
      refine (HSm.out R3 D a3 c3 ad cap _ HL3.out (HD.out.gr HG3.out) HE3.out hR3).mono ?_
      rintro e w4 ⟨rfl, hg4⟩
      have HG4 : Hid (Gr w w4) := HG3.out.trans hg4
      clear hg4 q0 q1 ql
      go_wp2_with fail
      refine (HRs.out _).mono ?_
      rintro e v1 ⟨a1, c1, R1, rfl, hb1, hd1, hgv⟩
      obtain ⟨a1', c1', e1, hl1, hc1, hk1, _⟩ := hb1.at
      cases e1
      have hR1 : R1.length ≤ 9223372036854775807 := by omega
      have gF : Gr v1 (v1.alloc (.cells #[.int .i64 (Bk.rE s.data.toList), .int .i64 (Bk.rA s.data.toList)] 29)) := (Gr.refl v1).alloc
      have HGv : Hid (Gr w (v1.alloc (.cells #[.int .i64 (Bk.rE s.data.toList), .int .i64 (Bk.rA s.data.toList)] 29))) := (HG4.out.trans hgv).trans gF
      have HK1 := Lib.hid (hk1.gr gF)
      obtain ⟨f0, f1, _, _, fl⟩ := TwoAt.new v1 (.int .i64 (Bk.rE s.data.toList)) (.int .i64 (Bk.rA s.data.toList)) 29 _ rfl
      clear hb1 hk1 hgv
      by_cases hre : Bk.rE s.data.toList = 0
      · have HMay1 : Hid (Bk.mayB (dns R1) = true) := by show _ = _; rw [hd1]; exact Bk.rD_may _
        rw [hre] at f0 gF HGv HK1 ⊢
        have HSh := Lib.hid (fun w' (g : Gr (v1.alloc (.cells #[.int .i64 0, .int .i64 (Bk.rA s.data.toList)] 29)) w') => show10_any R1 a1 c1 w' (HK1.out.gr g) hR1 ((HEn.out.gr HGv.out).gr g))
        have HMy := Lib.hid (fun w' (g : Gr (v1.alloc (.cells #[.int .i64 0, .int .i64 (Bk.rA s.data.toList)] 29)) w') => may_any R1 a1 c1 w' (HK1.out.gr g) hR1)
        rw [Bk.may_ok HMay1.out] at HMy
        have HZc : Hid (bsZ (dns R1) = 0 ∨ bsZ (dns R1) = 3) := by
          show _ ∨ _
          unfold bsZ
          rw [if_pos HMay1.out]
          by_cases h : 2000 < (bkT (dns R1)).length
          · exact Or.inr (if_pos h)
          · exact Or.inl (if_neg h)
        have HBg : Hid (bsZ (dns R1) = 3 → bsT (dns R1) = ⟨#[]⟩) := by
          intro h
          unfold bsT; rw [h]; rfl
        have HRd : Hid (bsZ (dns R1) = 0 → ∀ w', Calls Tryd.prog 7 #[.string (bsT (dns R1))] w' fun e w2 => ∃ p, ReR w' (dns R1) 0 p e w2) := fun h w' => read_back h w'
        generalize bsT (dns R1) = TX at *
        generalize bsZ (dns R1) = TZ at *
        generalize Bk.rA s.data.toList = RA at *
        clear hd1 hre
        go_wp2_with fail
        refine (HSh.out _ (Gr.refl _)).mono ?_
        rintro e v2 ⟨rfl, hgs⟩
        have HGs := Lib.hid hgs
        have HG2 : Hid (Gr w v2) := HGv.out.trans hgs
        clear hgs
        go_wp2_with fail
        refine (HMy.out _ HGs.out).mono ?_
        rintro e v3 ⟨rfl, hgm⟩
        have HG3 : Hid (Gr w v3) := HG2.out.trans hgm
        have HK3 := Lib.hid (HK1.out.gr (HGs.out.trans hgm))
        clear hgm
        rcases HZc.out with hz0 | hz3
        · have HR0 := Lib.hid (HRd.out hz0)
          rw [hz0]
          clear hz0 HZc HBg HRd
          go_wp2_with fail
          refine (HR0.out _).mono ?_
          rintro e v4 ⟨p4, a4, c4, R4, rfl, hb4, hd4, hg4⟩
          obtain ⟨a4', c4', e4, hl4, hc4, hk4, _⟩ := hb4.at
          cases e4
          have hR4 : R4.length ≤ 9223372036854775807 := by omega
          have gF4 : Gr v4 (v4.alloc (.cells #[.int .i64 0, .int .i64 p4] 29)) := (Gr.refl v4).alloc
          have HG4 : Hid (Gr w (v4.alloc (.cells #[.int .i64 0, .int .i64 p4] 29))) := (HG3.out.trans hg4).trans gF4
          have HK4 := Lib.hid ((HK3.out.gr hg4).gr gF4)
          have HL4 := Lib.hid (hk4.gr gF4)
          obtain ⟨q0, q1, _, _, ql⟩ := TwoAt.new v4 (.int .i64 0) (.int .i64 p4) 29 _ rfl
          have HE4 : Hid (dns R4 = dns R1) := hd4
          clear hb4 hk4 hg4 hd4 gF4
          go_wp2_with fail
          refine (HSm.out R4 R1 a4 c4 a1 c1 _ HL4.out HK4.out HE4.out hR4).mono ?_
          rintro e v5 ⟨rfl, hg5⟩
          have HG5 : Hid (Gr w v5) := HG4.out.trans hg5
          clear hg5
          go_wp2_with fail
          refine (HA.out _).mono ?_
          rintro e v6 ⟨rfl, hg6⟩
          have HG6 : Hid (Gr w v6) := HG5.out.trans hg6
          clear hg6
          go_wp2
          go_ret
          exact ⟨rfl, HG6.out⟩
        · have hTX : TX = ⟨#[]⟩ := HBg.out hz3
          subst hTX
          rw [hz3]
          clear hz3 HZc HBg HRd
          go_wp2_with fail
          refine (HA.out _).mono ?_
          rintro e v4 ⟨rfl, hg4⟩
          have HG4 : Hid (Gr w v4) := HG3.out.trans hg4
          clear hg4
          go_wp2
          go_ret
          exact ⟨rfl, HG4.out⟩
      · have hR0 : R1 = [] := List.map_eq_nil_iff.1 (hd1.trans (Bk.rD_none hre))
        subst hR0
        have hrn : (Bk.rE s.data.toList == 0) = false := by simpa using hre
        clear hd1 hre
        generalize Bk.rE s.data.toList = RE at *
        generalize Bk.rA s.data.toList = RA at *
        go_wp2_with fail
        refine (HA.out _).mono ?_
        rintro e v2 ⟨rfl, hg2⟩
        have HG2 : Hid (Gr w v2) := HGv.out.trans hg2
        clear hg2
        go_wp2
        go_ret
        exact ⟨rfl, HG2.out⟩
    · have hzn : (bsZ (dns D) == 0) = false := by simpa using hz
      generalize bsT (dns D) = TT at *
      generalize bsZ (dns D) = ZZ at *
      clear hf hz HRt
      go_enter Tryd.func3, Tryd.ntmps3
      go_wp2_with fail
      refine (HF.out w (Gr.refl w)).mono ?_
      rintro e w1 ⟨rfl, hg1⟩
      go_wp2_with fail
      refine (HS.out _ (by repeat (first | exact Gr.refl _ | refine Gr.alloc ?_ | refine Gr.drew ?_ | refine Gr.trans ?_ (by assumption)))).mono ?_
      rintro e w2 ⟨rfl, hg2⟩
      have HG2 : Hid (Gr w w2) := (by repeat (first | exact Gr.refl _ | refine Gr.alloc ?_ | refine Gr.drew ?_ | refine Gr.trans ?_ (by assumption)))
      clear hg1 hg2
      go_wp2_with fail
      refine (HRs.out _).mono ?_
      rintro e v1 ⟨a1, c1, R1, rfl, hb1, hd1, hgv⟩
      obtain ⟨a1', c1', e1, hl1, hc1, hk1, _⟩ := hb1.at
      cases e1
      have hR1 : R1.length ≤ 9223372036854775807 := by omega
      have gF : Gr v1 (v1.alloc (.cells #[.int .i64 (Bk.rE s.data.toList), .int .i64 (Bk.rA s.data.toList)] 29)) := (Gr.refl v1).alloc
      have HGv : Hid (Gr w (v1.alloc (.cells #[.int .i64 (Bk.rE s.data.toList), .int .i64 (Bk.rA s.data.toList)] 29))) := (HG2.out.trans hgv).trans gF
      have HK1 := Lib.hid (hk1.gr gF)
      obtain ⟨f0, f1, _, _, fl⟩ := TwoAt.new v1 (.int .i64 (Bk.rE s.data.toList)) (.int .i64 (Bk.rA s.data.toList)) 29 _ rfl
      clear hb1 hk1 hgv
      by_cases hre : Bk.rE s.data.toList = 0
      · have HMay1 : Hid (Bk.mayB (dns R1) = true) := by show _ = _; rw [hd1]; exact Bk.rD_may _
        rw [hre] at f0 gF HGv HK1 ⊢
        have HSh := Lib.hid (fun w' (g : Gr (v1.alloc (.cells #[.int .i64 0, .int .i64 (Bk.rA s.data.toList)] 29)) w') => show10_any R1 a1 c1 w' (HK1.out.gr g) hR1 ((HEn.out.gr HGv.out).gr g))
        have HMy := Lib.hid (fun w' (g : Gr (v1.alloc (.cells #[.int .i64 0, .int .i64 (Bk.rA s.data.toList)] 29)) w') => may_any R1 a1 c1 w' (HK1.out.gr g) hR1)
        rw [Bk.may_ok HMay1.out] at HMy
        have HZc : Hid (bsZ (dns R1) = 0 ∨ bsZ (dns R1) = 3) := by
          show _ ∨ _
          unfold bsZ
          rw [if_pos HMay1.out]
          by_cases h : 2000 < (bkT (dns R1)).length
          · exact Or.inr (if_pos h)
          · exact Or.inl (if_neg h)
        have HBg : Hid (bsZ (dns R1) = 3 → bsT (dns R1) = ⟨#[]⟩) := by
          intro h
          unfold bsT; rw [h]; rfl
        have HRd : Hid (bsZ (dns R1) = 0 → ∀ w', Calls Tryd.prog 7 #[.string (bsT (dns R1))] w' fun e w2 => ∃ p, ReR w' (dns R1) 0 p e w2) := fun h w' => read_back h w'
        generalize bsT (dns R1) = TX at *
        generalize bsZ (dns R1) = TZ at *
        generalize Bk.rA s.data.toList = RA at *
        clear hd1 hre
        go_wp2_with fail
        refine (HSh.out _ (Gr.refl _)).mono ?_
        rintro e v2 ⟨rfl, hgs⟩
        have HGs := Lib.hid hgs
        have HG2 : Hid (Gr w v2) := HGv.out.trans hgs
        clear hgs
        go_wp2_with fail
        refine (HMy.out _ HGs.out).mono ?_
        rintro e v3 ⟨rfl, hgm⟩
        have HG3 : Hid (Gr w v3) := HG2.out.trans hgm
        have HK3 := Lib.hid (HK1.out.gr (HGs.out.trans hgm))
        clear hgm
        rcases HZc.out with hz0 | hz3
        · have HR0 := Lib.hid (HRd.out hz0)
          rw [hz0]
          clear hz0 HZc HBg HRd
          go_wp2_with fail
          refine (HR0.out _).mono ?_
          rintro e v4 ⟨p4, a4, c4, R4, rfl, hb4, hd4, hg4⟩
          obtain ⟨a4', c4', e4, hl4, hc4, hk4, _⟩ := hb4.at
          cases e4
          have hR4 : R4.length ≤ 9223372036854775807 := by omega
          have gF4 : Gr v4 (v4.alloc (.cells #[.int .i64 0, .int .i64 p4] 29)) := (Gr.refl v4).alloc
          have HG4 : Hid (Gr w (v4.alloc (.cells #[.int .i64 0, .int .i64 p4] 29))) := (HG3.out.trans hg4).trans gF4
          have HK4 := Lib.hid ((HK3.out.gr hg4).gr gF4)
          have HL4 := Lib.hid (hk4.gr gF4)
          obtain ⟨q0, q1, _, _, ql⟩ := TwoAt.new v4 (.int .i64 0) (.int .i64 p4) 29 _ rfl
          have HE4 : Hid (dns R4 = dns R1) := hd4
          clear hb4 hk4 hg4 hd4 gF4
          go_wp2_with fail
          refine (HSm.out R4 R1 a4 c4 a1 c1 _ HL4.out HK4.out HE4.out hR4).mono ?_
          rintro e v5 ⟨rfl, hg5⟩
          have HG5 : Hid (Gr w v5) := HG4.out.trans hg5
          clear hg5
          go_wp2_with fail
          refine (HA.out _).mono ?_
          rintro e v6 ⟨rfl, hg6⟩
          have HG6 : Hid (Gr w v6) := HG5.out.trans hg6
          clear hg6
          go_wp2
          go_ret
          exact ⟨rfl, HG6.out⟩
        · have hTX : TX = ⟨#[]⟩ := HBg.out hz3
          subst hTX
          rw [hz3]
          clear hz3 HZc HBg HRd
          go_wp2_with fail
          refine (HA.out _).mono ?_
          rintro e v4 ⟨rfl, hg4⟩
          have HG4 : Hid (Gr w v4) := HG3.out.trans hg4
          clear hg4
          go_wp2
          go_ret
          exact ⟨rfl, HG4.out⟩
      · have hR0 : R1 = [] := List.map_eq_nil_iff.1 (hd1.trans (Bk.rD_none hre))
        subst hR0
        have hrn : (Bk.rE s.data.toList == 0) = false := by simpa using hre
        clear hd1 hre
        generalize Bk.rE s.data.toList = RE at *
        generalize Bk.rA s.data.toList = RA at *
        go_wp2_with fail
        refine (HA.out _).mono ?_
        rintro e v2 ⟨rfl, hg2⟩
        have HG2 : Hid (Gr w v2) := HGv.out.trans hg2
        clear hg2
        go_wp2
        go_ret
        exact ⟨rfl, HG2.out⟩
set_option maxRecDepth 100000 in
theorem bookBack_lifted (os : Os) (started : os.Started) (H : Type) (enc : TypeId × Value → H) :
    ReturnsInHanded {} Tryd.checked os 3 .any (fun w args => (Rows.bookBackSpec.pre enc Tryd.prog Tryd.f3 [] false w args ∧ laidMetH Tryd.prog laidL w) ∧ sizedMet enc Tryd.prog Tryd.f3 (OpenSpec.ofChange Rows.bookBackSpec) false w args)
      (Rows.bookBackSpec.post enc Tryd.prog Tryd.f3 false true false false) := by
  refine returnsInHanded_of_change_and (C := Tryd.checked) (X := fun w _ => laidMetH Tryd.prog laidL w) (fun _ _ _ hh h => h.of_heap hh) own2 started (by kernel_rfl) Tryd.func3
    (ChangeSpec.witness_shaped (enc := enc) (C := Tryd.checked) (os := os) (X := fun w _ => laidMetH Tryd.prog laidL w) false (World.doorLaid Tryd.prog 400 os) #[.slice none 0 0, .string ⟨#[]⟩] 8 rfl (World.shaped_of_RefB (by kernel_rfl) (by kernel_rfl)) (by kernel_rfl) (by kernel_rfl) (by kernel_rfl) (door_met os _)) ?_
  intro W base args ds gs before hval0 hW _ hsz0 hL _
  have hval : ∀ (j : Nat) t v, Tryd.f3.params[j]? = some t → args[j]? = some v → Value.okWide Tryd.prog W .any base t v := hval0
  have hW' := hW
  obtain ⟨p, q, hA0, hV, rfl, hfz, hnd⟩ := hW
  have hA : DataW.TrodAll enc Tryd.prog W 0 (fun _ => true) true Tryd.f3.params.toList args.toList ds p := hA0
  rw [Tryd.params3] at hA hval
  obtain ⟨v0, v1, d0, d1, p0, p1, rfl, rfl, rfl, h0, h1⟩ := trodAll_two hA
  obtain ⟨rfl, rfl⟩ := trodVars_none hV
  have k0 := h0
  have lt0 : ∀ x ∈ p0, x.block < W.heap.size := by obtain ⟨m, hm⟩ := k0; exact DataW.trod_lt m _ _ _ hm
  obtain ⟨ad0, cap0, D0, rfl, hB0, hn0, hc0, hl0, hm0⟩ := open_defs (hval 0 22 v0 rfl rfl) h0
  obtain ⟨a1, rfl, rfl, rfl, wa1⟩ := open_string Tryd.underlying9 (hval 1 9 v1 rfl rfl) h1
  have hs1 : a1.size ≤ 9223372036854775807 := len_max wa1
  clear hA0 hval0
  have hE := env_of_laid hL
  refine (bookBack_walk D0 a1 ad0 cap0 W hE hB0 hn0 hs1).mono fun e W' ⟨he, hg⟩ => ?_
  subst he
  exact ⟨_, rfl, _, _, _, [], _, [], hW', trodAll_mk1 (shut_bool Tryd.underlying4 _), trodAll_mk2 (Below.trod laidOut2 (by kernel_rfl) (of_decide_eq_true (by kernel_rfl)) k0 hg.below lt0) (shut_string Tryd.underlying9 wa1), rfl, hg.below.frame _, fun h => by cases h⟩
theorem bookBack_holds : Rows.BookBackSaid :=
  OpenClaim.holds_of_wide 3 Tryd.f3 rfl rfl rfl rfl rfl rfl rfl ⟨rfl, rfl, rfl, rfl, rfl⟩ rfl rfl rfl rfl rfl (by kernel_rfl) Tryd.func3 (by kernel_rfl)
    (of_decide_eq_true (by kernel_rfl)) (by unfold Func.isWrapper; first | (rw [if_pos (by decide +kernel)]; kernel_rfl) | (rw [if_neg (by decide +kernel)]; exact ⟨rfl, rfl⟩))
    (fun os started H enc _ => bookBack_lifted os started H enc)
theorem bookBack_card_holds : Rows.BookBackCardSaid :=
  Claim7.holds_tied_plain_at .later [] [.data, .data, .data] true (true, "b4a248f078e4b47768ffb6050752886bceea6710b39a2cc16958a051817ebf14") false
    bookBack_holds (fun _ h => by cases h) (by kernel_rfl) (fun _ h => by cases h) bookBack_row_tie rfl ⟨rfl, rfl⟩ (by kernel_rfl) rfl
    (fun f fn hf hfn => by
      obtain rfl : f = 3 := Option.some.inj ((show Tryd.prog.funcNamed "entente/ententelaw10.BookBack" = some 3 by kernel_rfl).symm.trans hf) |>.symm
      obtain rfl : fn = Tryd.f3 := (Option.some.inj (Tryd.func3.symm.trans hfn)).symm
      exact ⟨by kernel_rfl, fun j t ht => by
        rw [Tryd.params3] at ht
        have hm : t ∈ [22, 9] := by simpa using Array.mem_of_getElem? ht
        have hall : ([22, 9].all fun u => !Tryd.prog.wantsStandIn u) = true := by kernel_rfl
        exact (show Tryd.prog.wantsStandIn t = false by simpa using List.all_eq_true.1 hall t hm)⟩)
    (by kernel_rfl)
end Go.Proofs.YtfobfpigbfepoaaDoor
