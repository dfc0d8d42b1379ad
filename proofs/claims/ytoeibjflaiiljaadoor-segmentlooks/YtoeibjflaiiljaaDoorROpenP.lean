
/- The document's Open answers Sl.openE. -/
import Derived.Test.YtoeibjflaiiljaaDoorEndsP
import Derived.Test.YtoeibjflaiiljaaDoorRefTake
import Derived.Test.YtoeibjflaiiljaaDoorRSealP
namespace Go.Proofs.YtoeibjflaiiljaaDoor
open Go.RowKit

set_option maxHeartbeats 2000000 in
set_option maxRecDepth 100000 in
theorem refOpen_any (s : ByteArray) (p v : Int) (w : World) (hs : s.size ≤ 140737488355328) :
    Calls Tryd.prog 30 #[.string s, .int .i64 p, .int .i64 v] w fun e w' => e = .returned (.tuple #[.string ⟨(Sl.openE s.data.toList p v).1.toArray⟩, .int .i64 (Sl.openE s.data.toList p v).2.1, .int .i64 (Sl.openE s.data.toList p v).2.2]) ∧ Gr w w' := by
  have hsz : s.data.toList.length = s.size := by simp
  have hout : ¬ (0 ≤ p ∧ p ≤ s.data.toList.length ∧ 0 ≤ v ∧ v ≤ 255) → Sl.openE s.data.toList p v = ([], 0, 2) := fun h => Sl.open_head _ _ _ 2 (by unfold Sl.headE; rw [if_neg h]) (by decide)
  by_cases h0 : 0 ≤ p
  · have h0' : decide (p < 0) = false := decide_eq_false (by omega)
    by_cases h1 : p ≤ s.size
    · have h1' : decide ((s.size : Int) < p) = false := decide_eq_false (by omega)
      by_cases h2 : 0 ≤ v
      · have h2' : decide (v < 0) = false := decide_eq_false (by omega)
        by_cases h3 : v ≤ 255
        · have h3' : decide (255 < v) = false := decide_eq_false (by omega)
          clear hout
          obtain ⟨a, rfl⟩ := Int.eq_ofNat_of_zero_le h0
          obtain ⟨x, rfl⟩ := Int.eq_ofNat_of_zero_le h2
          have ha : a ≤ s.size := by omega
          have HE : Hid (Sl.headE s.data.toList a x = match s.data.toList.drop a with | [] => 10 | c :: r => if c = 231 then (match r with | [] => 10 | d :: _ => if d.toNat = x then 0 else 21) else 20) := by
            show _ = _
            rw [Sl.headE, if_pos ⟨h0, by omega, h2, h3⟩]; rfl
          have hx := ext_drop s a
          rw [← hx] at HE
          obtain ⟨L, hL⟩ : ∃ L, s.extract a s.size = L := ⟨_, rfl⟩
          have hLs : L.size = s.size - a := by rw [← hL]; simp
          have hLl : L.data.toList.length = L.size := by simp
          rw [hL] at HE hx
          have HX : Hid (L.data.toList = s.data.toList.drop a) := hx
          clear hx
          cases hd : L.data.toList with
          | nil =>
            rw [hd] at hLl HE
            have hz : L.size = 0 := by simpa using hLl.symm
            have hLe : L = ⟨#[]⟩ := by rw [← mk_data L, hd]
            have hLq : (L.toList == []) = true := by rw [toList_data, hd]; rfl
            have HR : Hid (Sl.openE s.data.toList a x = ([], 0, 10)) := Sl.open_head _ _ _ 10 HE.out (by decide)
            clear hLe
            go_enter Tryd.func30, Tryd.ntmps30
            go_wp2
            go_ret3
            rw [HR.out]
            exact ⟨rfl, Gr.refl _⟩
          | cons c r =>
            have hLe : (L.toList == []) = false := by rw [toList_data, hd]; rfl
            rw [hd] at hLl HE
            have hpos : 0 < L.size := by rw [← hLl]; simp
            have hc0 : L[0] = c := by
              show L.data[0] = c
              have : L.data.toList[0]'(by rw [hd]; simp) = c := by simp [hd]
              simpa using this
            by_cases hc : c = 231
            · subst hc
              have hcb : (((231 : UInt8).toNat : Int) != 231) = false := by decide
              cases r with
              | nil =>
                have hz : L.size = 1 := by simpa using hLl.symm
                have HR : Hid (Sl.openE s.data.toList a x = ([], 0, 10)) := Sl.open_head _ _ _ 10 HE.out (by decide)
                go_enter Tryd.func30, Tryd.ntmps30
                go_wp2
                go_ret3
                rw [HR.out]
                exact ⟨rfl, Gr.refl _⟩
              | cons d r =>
                have hz : 2 ≤ L.size := by rw [← hLl]; simp
                have hz1 : 1 < L.size := by omega
                have hz2 : ((L.size : Int) == 1) = false := by rw [beq_eq_false_iff_ne]; omega
                have hd1 : L[1] = d := by
                  show L.data[1] = d
                  have : L.data.toList[1]'(by rw [hd]; simp) = d := by simp [hd]
                  simpa using this
                have hd8 : d.toNat < 256 := d.toNat_lt
                by_cases hv : (d.toNat : Int) = (x : Int)
                · have hvb : ((d.toNat : Int) != (x : Int)) = false := by rw [hv]; exact bne_self_eq_false _
                  have hh : Sl.headE s.data.toList a x = 0 := by rw [HE.out]; simp; omega
                  obtain ⟨⟨n, f, e⟩, ht⟩ : ∃ r, Pk.takeNum s.data.toList ((a : Int) + 2) = r := ⟨_, rfl⟩
                  have hO := Sl.open_take s.data.toList a x hh n f e ht
                  have hS := Sl.take_shift s.data.toList a (by omega)
                  have hsp := Pk.takeNum_spec s.data.toList ((a : Int) + 2)
                  rw [ht] at hS hsp
                  rw [← HX.out] at hS hO
                  simp only at hS hsp
                  have HT : Hid (∀ w : World, Calls Tryd.prog 42 #[.string L, .int .i64 2] w fun e w' => e = .returned (.tuple #[.int .u64 (Pk.takeNum L.data.toList 2).1, .int .i64 (Pk.takeNum L.data.toList 2).2.1, .int .i64 (Pk.takeNum L.data.toList 2).2.2]) ∧ Gr w w') := fun w => refTakeNumber_any L 2 w (by omega)
                  rw [hS] at HT
                  simp only at HT
                  clear hS ht HE
                  by_cases he : e = 0
                  · subst he
                    rw [if_pos rfl] at hO
                    have hb1 : n < 18446744073709551616 ∧ f ≤ s.size ∧ a + 2 ≤ f := by
                      rcases hsp with h | h | h | h <;> simp at h <;> omega
                    obtain ⟨hn, hf, hg⟩ := hb1
                    clear hsp
                    obtain ⟨g, hg2⟩ : ∃ g, f - a = g := ⟨_, rfl⟩
                    rw [hg2] at HT hO
                    by_cases hn3 : n ≤ 30000
                    · rw [if_pos hn3] at hO
                      by_cases hl : f + n + 8 ≤ s.size
                      · rw [if_pos (by omega)] at hO
                        have hnl : ¬ ((L.size : Int) - (g : Int) < (n : Int) + 8) := by omega
                        have hb1 : (0 : Int) ≤ (g : Int) + (n : Int) := by omega
                        have hb2 : (g : Int) + (n : Int) ≤ (L.size : Int) := by omega
                        have hb3 : (g : Int) + (n : Int) + 8 ≤ (L.size : Int) := by omega
                        have hbx := ext_data L g n
                        have hbs : (L.extract g (g + n)).size = n := by simp; omega
                        have hk1 : (L.extract 0 (g + n + 8)).toList = L.data.toList.take (g + n + 8) := by
                          have := ext_data L 0 (g + n + 8)
                          rw [toList_data]; simpa only [Nat.zero_add, List.drop_zero] using this
                        have hkl : (L.data.toList.take (g + n + 8)).length = g + n + 8 := by rw [List.length_take, show L.data.toList.length = L.size by simp]; omega
                        rw [← hbx] at hO
                        obtain ⟨B, hB⟩ : ∃ B, L.extract g (g + n) = B := ⟨_, rfl⟩
                        rw [hB] at hO hbs
                        have HS : Hid (∀ w : World, Calls Tryd.prog 10 #[.int .i64 x, .string B] w fun e w' => e = .returned (.tuple #[.string ⟨(Sl.frame x B.data.toList).toArray⟩, .int .i64 0]) ∧ Gr w w') := by
                          intro w
                          have := refSeal_any x B w (by omega)
                          have e : Sl.sealE x B.data.toList = (Sl.frame x B.data.toList, 0) := by
                            unfold Sl.sealE
                            rw [if_pos ⟨h2, h3⟩, if_pos (by have : B.data.toList.length = B.size := by simp
                                                            omega)]; rfl
                          rw [e] at this
                          exact this
                        generalize Sl.frame x B.data.toList = fr at *
                        generalize L.data.toList.take (g + n + 8) = tk at *
                        clear hbx hd
                        by_cases hq : (fr == tk) = true
                        · rw [if_pos hq] at hO
                          have HR : Hid (Sl.openE s.data.toList a x = _) := hO
                          have hfl : fr.length = g + n + 8 := by rw [beq_iff_eq] at hq; rw [hq]; exact hkl
                          have hfs : (⟨fr.toArray⟩ : ByteArray).size = g + n + 8 := by simpa [ByteArray.size] using hfl
                          clear hO hkl
                          go_enter Tryd.func30, Tryd.ntmps30
                          go_wp2_with fail
                          refine (HT.out _).mono ?_
                          rintro e w1 ⟨rfl, hg1⟩
                          go_wp2_with fail
                          refine (HS.out _).mono ?_
                          rintro e w2 ⟨rfl, hg2'⟩
                          go_wp2
                          go_ret3
                          rw [HR.out]
                          refine ⟨?_, (by repeat (first | exact Gr.refl _ | refine Gr.alloc ?_ | refine Gr.drew ?_ | refine Gr.trans ?_ (by assumption)))⟩
                          show Ending.returned (Value.tuple #[Value.string B, Value.int IntKind.i64 ((a : Int) + ((g : Int) + (n : Int) + 8)), Value.int IntKind.i64 0]) = _
                          have e9 : (a : Int) + ((g : Int) + (n : Int) + 8) = ((f + n + 8 : Nat) : Int) := by omega
                          rw [e9]
                          rfl
                        · have hq' : (fr == tk) = false := by simpa using hq
                          rw [if_neg hq] at hO
                          have HR : Hid (Sl.openE s.data.toList a x = _) := hO
                          clear hO hkl hq
                          go_enter Tryd.func30, Tryd.ntmps30
                          go_wp2_with fail
                          refine (HT.out _).mono ?_
                          rintro e w1 ⟨rfl, hg1⟩
                          go_wp2_with fail
                          refine (HS.out _).mono ?_
                          rintro e w2 ⟨rfl, hg2'⟩
                          go_wp2
                          go_ret3
                          rw [HR.out]
                          exact ⟨rfl, (by repeat (first | exact Gr.refl _ | refine Gr.alloc ?_ | refine Gr.drew ?_ | refine Gr.trans ?_ (by assumption)))⟩
                      · rw [if_neg (by omega)] at hO
                        have HR : Hid (Sl.openE s.data.toList a x = ([], 0, 10)) := hO
                        have hnl : (L.size : Int) - (g : Int) < (n : Int) + 8 := by omega
                        clear hO
                        go_enter Tryd.func30, Tryd.ntmps30
                        go_wp2_with fail
                        refine (HT.out _).mono ?_
                        rintro e w1 ⟨rfl, hg1⟩
                        go_wp2
                        go_ret3
                        rw [HR.out]
                        exact ⟨rfl, (by repeat (first | exact Gr.refl _ | refine Gr.alloc ?_ | refine Gr.drew ?_ | refine Gr.trans ?_ (by assumption)))⟩
                    · rw [if_neg hn3] at hO
                      have HR : Hid (Sl.openE s.data.toList a x = ([], 0, 3)) := hO
                      have hlt : (30000 : Int) < (n : Int) := by omega
                      clear hO
                      go_enter Tryd.func30, Tryd.ntmps30
                      go_wp2_with fail
                      refine (HT.out _).mono ?_
                      rintro e w1 ⟨rfl, hg1⟩
                      go_wp2
                      go_ret3
                      rw [HR.out]
                      exact ⟨rfl, (by repeat (first | exact Gr.refl _ | refine Gr.alloc ?_ | refine Gr.drew ?_ | refine Gr.trans ?_ (by assumption)))⟩
                  · rw [if_neg he] at hO
                    have HR : Hid (Sl.openE s.data.toList a x = ([], 0, e)) := hO
                    have hne : ((e : Int) != 0) = true := by rw [bne_iff_ne]; omega
                    clear hO hsp
                    go_enter Tryd.func30, Tryd.ntmps30
                    go_wp2_with fail
                    refine (HT.out _).mono ?_
                    rintro e w1 ⟨rfl, hg1⟩
                    go_wp2
                    go_ret3
                    rw [HR.out]
                    exact ⟨rfl, (by repeat (first | exact Gr.refl _ | refine Gr.alloc ?_ | refine Gr.drew ?_ | refine Gr.trans ?_ (by assumption)))⟩
                · have HR : Hid (Sl.openE s.data.toList a x = ([], 0, 21)) := Sl.open_head _ _ _ 21 (by rw [HE.out]; simp; omega) (by decide)
                  have hvb : ((d.toNat : Int) != (x : Int)) = true := by rw [bne_iff_ne]; exact hv
                  go_enter Tryd.func30, Tryd.ntmps30
                  go_wp2
                  go_ret3
                  rw [HR.out]
                  exact ⟨rfl, Gr.refl _⟩
            · have HR : Hid (Sl.openE s.data.toList a x = ([], 0, 20)) := Sl.open_head _ _ _ 20 (by rw [HE.out]; simp [hc]) (by decide)
              have hcb : ((c.toNat : Int) != 231) = true := by
                rw [bne_iff_ne]; intro h; apply hc
                exact UInt8.toNat_inj.1 (by have : c.toNat = 231 := by omega
                                            rw [this]; rfl)
              go_enter Tryd.func30, Tryd.ntmps30
              go_wp2
              go_ret3
              rw [HR.out]
              exact ⟨rfl, Gr.refl _⟩
        · have HR : Hid (Sl.openE s.data.toList p v = ([], 0, 2)) := hout (by omega)
          have h3' : 255 < v := by omega
          clear hout
          go_enter Tryd.func30, Tryd.ntmps30
          go_wp2
          go_ret3
          rw [HR.out]
          exact ⟨rfl, Gr.refl _⟩
      · have HR : Hid (Sl.openE s.data.toList p v = ([], 0, 2)) := hout (by omega)
        have h2' : v < 0 := by omega
        clear hout
        go_enter Tryd.func30, Tryd.ntmps30
        go_wp2
        go_ret3
        rw [HR.out]
        exact ⟨rfl, Gr.refl _⟩
    · have HR : Hid (Sl.openE s.data.toList p v = ([], 0, 2)) := hout (by omega)
      have h1' : (s.size : Int) < p := by omega
      clear hout
      go_enter Tryd.func30, Tryd.ntmps30
      go_wp2
      go_ret3
      rw [HR.out]
      exact ⟨rfl, Gr.refl _⟩
  · have HR : Hid (Sl.openE s.data.toList p v = ([], 0, 2)) := hout (by omega)
    have h0' : p < 0 := by omega
    clear hout
    go_enter Tryd.func30, Tryd.ntmps30
    go_wp2
    go_ret3
    rw [HR.out]
    exact ⟨rfl, Gr.refl _⟩
end Go.Proofs.YtoeibjflaiiljaaDoor
