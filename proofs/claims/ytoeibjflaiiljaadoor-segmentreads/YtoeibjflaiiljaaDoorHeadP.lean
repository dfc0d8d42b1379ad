
/- seal.checkHead answers Sl.headE. -/
import Derived.Test.YtoeibjflaiiljaaDoorLaidP
import Derived.Lib.Strings
import Derived.Deep.QuietTactic
import Derived.BigQuiet
namespace Go.Proofs.YtoeibjflaiiljaaDoor
open Go.RowKit

theorem ext_drop (s : ByteArray) (a : Nat) : (s.extract a s.size).data.toList = s.data.toList.drop a := by
  have hl : s.data.toList.length = s.size := by simp
  simp only [ByteArray.data_extract, Array.toList_extract, List.extract_eq_take_drop]
  rw [List.take_of_length_le (by simp)]

set_option maxHeartbeats 1000000 in
set_option maxRecDepth 100000 in
theorem checkHead_any (s : ByteArray) (p v : Int) (w : World) :
    Calls Tryd.prog 45 #[.string s, .int .i64 p, .int .i64 v] w fun e w' => e = .returned (.int .i64 (Sl.headE s.data.toList p v : Nat)) ∧ w' = w := by
  have hsz : s.data.toList.length = s.size := by simp
  have HV : Hid (∀ w : World, Calls Tryd.prog 33 #[.int .i64 v] w fun e w' => e = .returned (.bool (decide (0 ≤ v ∧ v ≤ 255))) ∧ w' = w) := fun w => isVersion_any v w
  by_cases h0 : 0 ≤ p
  · have h0' : decide (p < 0) = false := decide_eq_false (by omega)
    by_cases h1 : p ≤ s.size
    · have h1' : decide ((s.size : Int) < p) = false := decide_eq_false (by omega)
      by_cases h2 : 0 ≤ v ∧ v ≤ 255
      · rw [decide_eq_true h2] at HV
        obtain ⟨a, rfl⟩ := Int.eq_ofNat_of_zero_le h0
        have ha : a ≤ s.size := by omega
        have HE : Hid (Sl.headE s.data.toList a v = match s.data.toList.drop a with | [] => 10 | c :: r => if c = 231 then (match r with | [] => 10 | d :: _ => if d.toNat = v.toNat then 0 else 21) else 20) := by
          show _ = _
          rw [Sl.headE, if_pos ⟨h0, by omega, h2.1, h2.2⟩]; rfl
        have hx := ext_drop s a
        rw [← hx] at HE
        obtain ⟨L, hL⟩ : ∃ L, s.extract a s.size = L := ⟨_, rfl⟩
        have hLs : L.size = s.size - a := by rw [← hL]; simp
        have hLl : L.data.toList.length = L.size := by simp
        rw [hL] at HE hx
        clear hx
        cases hd : L.data.toList with
        | nil =>
          rw [hd] at hLl HE
          have hz : L.size = 0 := by simpa using hLl.symm
          go_enter Tryd.func45, Tryd.ntmps45
          go_wp2_with fail
          refine (HV.out _).mono ?_
          rintro e w1 ⟨rfl, rfl⟩
          go_wp2
          go_ret
          rw [HE.out]
          exact ⟨rfl, rfl⟩
        | cons c r => 
          rw [hd] at hLl HE
          have hpos : 0 < L.size := by rw [← hLl]; simp
          have hc0 : L[0] = c := by
            show L.data[0] = c
            have : L.data.toList[0]'(by rw [hd]; simp) = c := by simp [hd]
            simpa using this
          by_cases hc : c = 231
          · subst hc
            have hcb : (((231 : UInt8).toNat : Int) != 231) = false := by decide
            cases r with
            | nil =>
              have hz : L.size = 1 := by simpa using hLl.symm
              have HR : Hid (Sl.headE s.data.toList a v = 10) := by show _ = _; rw [HE.out]; rfl
              go_enter Tryd.func45, Tryd.ntmps45
              go_wp2_with fail
              refine (HV.out _).mono ?_
              rintro e w1 ⟨rfl, rfl⟩
              go_wp2
              go_ret
              rw [HR.out]
              exact ⟨rfl, rfl⟩
            | cons d r =>
              have hz : 2 ≤ L.size := by rw [← hLl]; simp
              have hz1 : 1 < L.size := by omega
              have hd1 : L[1] = d := by
                show L.data[1] = d
                have : L.data.toList[1]'(by rw [hd]; simp) = d := by simp [hd]
                simpa using this
              have hd8 : d.toNat < 256 := d.toNat_lt
              by_cases hv : (d.toNat : Int) = v
              · have HR : Hid (Sl.headE s.data.toList a v = 0) := by show _ = _; rw [HE.out]; simp; omega
                have hvb : ((d.toNat : Int) != v) = false := by rw [hv]; exact bne_self_eq_false v
                go_enter Tryd.func45, Tryd.ntmps45
                go_wp2_with fail
                refine (HV.out _).mono ?_
                rintro e w1 ⟨rfl, rfl⟩
                go_wp2
                go_ret
                rw [HR.out]
                exact ⟨rfl, rfl⟩
              · have HR : Hid (Sl.headE s.data.toList a v = 21) := by show _ = _; rw [HE.out]; simp; omega
                have hvb : ((d.toNat : Int) != v) = true := by rw [bne_iff_ne]; exact hv
                go_enter Tryd.func45, Tryd.ntmps45
                go_wp2_with fail
                refine (HV.out _).mono ?_
                rintro e w1 ⟨rfl, rfl⟩
                go_wp2
                go_ret
                rw [HR.out]
                exact ⟨rfl, rfl⟩
          · have HR : Hid (Sl.headE s.data.toList a v = 20) := by show _ = _; rw [HE.out]; simp [hc]
            have hcb : ((c.toNat : Int) != 231) = true := by
              rw [bne_iff_ne]; intro h; apply hc
              exact UInt8.toNat_inj.1 (by have : c.toNat = 231 := by omega
                                          rw [this]; rfl)
            go_enter Tryd.func45, Tryd.ntmps45
            go_wp2_with fail
            refine (HV.out _).mono ?_
            rintro e w1 ⟨rfl, rfl⟩
            go_wp2
            go_ret
            rw [HR.out]
            exact ⟨rfl, rfl⟩
      · have HE : Hid (Sl.headE s.data.toList p v = 2) := by
          show _ = _
          rw [Sl.headE, if_neg (by intro h; exact h2 h.2.2)]
        rw [decide_eq_false h2] at HV
        go_enter Tryd.func45, Tryd.ntmps45
        go_wp2_with fail
        refine (HV.out _).mono ?_
        rintro e w1 ⟨rfl, rfl⟩
        go_wp2
        go_ret
        rw [HE.out]
        exact ⟨rfl, rfl⟩
    · have HE : Hid (Sl.headE s.data.toList p v = 2) := by
        show _ = _
        rw [Sl.headE, if_neg (by intro h; exact h1 (by omega))]
      go_enter Tryd.func45, Tryd.ntmps45
      go_wp2
      go_ret
      rw [HE.out]
      exact ⟨rfl, rfl⟩
  · have HE : Hid (Sl.headE s.data.toList p v = 2) := by
      show _ = _
      rw [Sl.headE, if_neg (by intro h; exact h0 (by omega))]
    go_enter Tryd.func45, Tryd.ntmps45
    go_wp2
    go_ret
    rw [HE.out]
    exact ⟨rfl, rfl⟩
end Go.Proofs.YtoeibjflaiiljaaDoor
