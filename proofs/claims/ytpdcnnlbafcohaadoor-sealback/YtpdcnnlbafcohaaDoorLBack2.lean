/- For every input the law SealBack answers true: frames, one behind the other, are opened again; of a beginning of these those that stand there whole. -/
import Derived.Test.YtpdcnnlbafcohaaDoorLaidQ
import Derived.Test.YtpdcnnlbafcohaaDoorFormM
import Derived.Test.YtpdcnnlbafcohaaDoorGoodP
import Derived.Test.YtpdcnnlbafcohaaDoorCutP
import Derived.Test.YtpdcnnlbafcohaaDoorAwk2
import Derived.Test.YtpdcnnlbafcohaaDoorJoinP
import Derived.Test.YtpdcnnlbafcohaaDoorSmlA
import Derived.Test.YtpdcnnlbafcohaaDoorSameA
import Derived.Test.YtpdcnnlbafcohaaDoorOpenS2
import Derived.SevenTiedAt
namespace Go.Proofs.YtpdcnnlbafcohaaDoor
open Go.ChangeShapes Go.WideShapes Go.ChangeAt Go.RowKit
open Go.ChangeMaps (open_string shut_string)

theorem laidOut2 : laidOutB Tryd.prog = true := by kernel_rfl
theorem ext0_data (s : ByteArray) (k : Nat) : (s.extract 0 k).data.toList = s.data.toList.take k := by
  have := ext_dat s 0 k
  rw [Nat.zero_add] at this
  rw [this, List.drop_zero]
theorem map_back (L : List ByteArray) : (L.map (fun s => s.data.toList)).map mkT = L := by
  rw [List.map_map]
  exact (List.map_congr_left (fun s _ => mk_data s)).trans (List.map_id _)
theorem StrsAt.take {w : World} {ad : Option Addr} {L : List ByteArray} (h : StrsAt w ad L) (k : Nat) : StrsAt w ad (L.take k) := by
  intro j hj
  have hj' : j < L.length := by rw [List.length_take] at hj; omega
  obtain ⟨b, off, e, hb, hc⟩ := h j hj'
  exact ⟨b, off, e, hb, by rw [List.getElem_take]; exact hc⟩
theorem seal_len (v : Int) (b : List UInt8) : (Sl.sealE v b).1.length ≤ b.length + 20 := by
  unfold Sl.sealE
  have h1 := Sl.frame_len v.toNat b
  have h2 := Pk.num_len b.length
  split
  · split
    · simp only; omega
    · simp
  · simp
theorem catE_len (v : Int) (L : List ByteArray) : (catE v L).length ≤ (flat L).length + 20 * L.length := by
  induction L with
  | nil => simp [catE]
  | cons s l ih =>
    have e1 : catE v (s :: l) = (Sl.sealE v s.data.toList).1 ++ catE v l := by simp [catE]
    have e2 : flat (s :: l) = s.data.toList ++ flat l := by simp [flat]
    have := seal_len v s.data.toList
    rw [e1, e2, List.length_append, List.length_append, List.length_cons]
    omega
theorem good_all (v : Int) (L : List ByteArray) (h : goodE v L = true) : ∀ b ∈ L.map (fun s => s.data.toList), b.length ≤ 30000 ∧ 0 ≤ v ∧ v ≤ 255 := by
  intro b hb
  obtain ⟨s, hs, rfl⟩ := List.mem_map.1 hb
  have := List.all_eq_true.1 h s hs
  unfold Sl.sealE at this
  split at this
  · rename_i hv
    split at this
    · rename_i hl; exact ⟨hl, hv.1, hv.2⟩
    · simp at this
  · simp at this

set_option maxHeartbeats 8000000 in
set_option maxRecDepth 100000 in
theorem sealBack_core (v : Int) (c : Nat) (L : List ByteArray) (cap b0 off0 : Nat) (w : World) (S : ByteArray)
    (HA : Hid (∀ w', Gr w w' → Calls Tryd.prog 12 #[] w' fun e w2 => e = .returned (.bool true) ∧ Gr w' w2))
    (H0 : Hid (∀ w', Gr w w' → Calls Tryd.prog 8 #[.slice (some ⟨b0, off0, none⟩) L.length cap] w' fun e w2 => e = .returned (.bool true) ∧ w2 = w'))
    (HS : Hid (∀ w', Gr w w' → Calls Tryd.prog 17 #[.int .i64 v, .slice (some ⟨b0, off0, none⟩) L.length cap] w' fun e w2 => ∃ ad2 cap2, e = .returned (.tuple #[.string S, .slice ad2 L.length cap2, .bool true]) ∧ IntsAt w2 ad2 (endsL v L L.length) ∧ Gr w' w2))
    (K1 : Hid (∀ w', Gr w w' → Calls Tryd.prog 18 #[.string S, .int .i64 v] w' fun e w2 => ∃ ad cap, e = .returned (.tuple #[.slice ad L.length cap, .int .i64 S.size, .int .i64 0]) ∧ StrsAt w2 ad L ∧ Gr w' w2))
    (HP : Hid (∀ k, k ≤ L.length → (k = 0 ∨ (catE v (L.take k)).length ≤ c) → (k = L.length ∨ c < (catE v (L.take (k + 1))).length) → ∀ w', Gr w w' →
                Calls Tryd.prog 18 #[.string (S.extract 0 c), .int .i64 v] w' fun e w2 => ∃ ad cap, e = .returned (.tuple #[.slice ad k cap, .int .i64 (catE v (L.take k)).length, .int .i64 (if (catE v (L.take k)).length < c then 10 else 0 : Nat)]) ∧ StrsAt w2 ad (L.take k) ∧ Gr w' w2))
    (HSM : Hid (∀ (w' : World) (a : Option Addr) (c1 : Nat), Gr w w' → StrsAt w' a L → Calls Tryd.prog 19 #[.slice a L.length c1, .slice (some ⟨b0, off0, none⟩) L.length cap] w' fun e w2 => e = .returned (.bool true) ∧ Gr w' w2))
    (HSK : Hid (∀ (w' : World) (a : Option Addr) (c1 k : Nat), k ≤ L.length → Gr w w' → StrsAt w' a (L.take k) → Calls Tryd.prog 19 #[.slice a k c1, .slice (some ⟨b0, off0, none⟩) k cap] w' fun e w2 => e = .returned (.bool true) ∧ Gr w' w2))
    (hcb : (c : Int) ≤ (S.size : Int)) (hc0 : (0 : Int) ≤ (c : Int)) (hnz : ((L.length : Int) == 0) = false) (h5000 : L.length ≤ 5000) (hp0' : decide ((c : Int) < 0) = false) (hcap : L.length ≤ cap) :
    Calls Tryd.prog 6 #[.int .i64 v, .slice (some ⟨b0, off0, none⟩) L.length cap, .int .i64 c] w fun e w' => e = .returned (.bool true) ∧ Gr w w' := by
  go_enter Tryd.func6, Tryd.ntmps6
  go_wp2_with fail
  refine (H0.out _ (by repeat (first | exact Gr.refl _ | refine Gr.alloc ?_ | refine Gr.drew ?_ | refine Gr.trans ?_ (by assumption)))).mono ?_
  rintro e0 w0 ⟨rfl, hw0⟩; obtain rfl := hw0.symm
  go_wp2_with fail
  refine (HS.out _ (by repeat (first | exact Gr.refl _ | refine Gr.alloc ?_ | refine Gr.drew ?_ | refine Gr.trans ?_ (by assumption)))).mono ?_
  rintro e1 w1 ⟨ad2, cap2, rfl, hia, hg1⟩
  go_wp2_with fail
  refine (K1.out _ (by repeat (first | exact Gr.refl _ | refine Gr.alloc ?_ | refine Gr.drew ?_ | refine Gr.trans ?_ (by assumption)))).mono ?_
  rintro e2 w2 ⟨ad3, cap3, rfl, hst2, hg2⟩
  have HI : Hid (IntsAt w2 ad2 (endsL v L L.length)) := hia.gr hg2
  have HST : Hid (StrsAt w2 ad3 L) := hst2
  clear hia hst2
  go_wp2
  go_loop [13, 14] (fun n a => ∃ k : Nat, k ≤ L.length ∧ n = .int .i64 k ∧ a = .int .i64 ((catE v (L.take k)).length : Nat) ∧ (k = 0 ∨ (catE v (L.take k)).length ≤ c)) (fun n _ => L.length - (intOf n).toNat)
  case atStart => exact ⟨0, by omega, rfl, rfl, Or.inl rfl⟩
  case round =>
    obtain ⟨k, hk, rfl, rfl, hkc⟩ := hrel
    by_cases hlt : k < L.length
    · obtain ⟨b, off, hadd, hbl, hcc⟩ := HI.out k (by rw [endsL_len]; exact hlt)
      subst hadd
      rw [endsL_get] at hcc
      by_cases hle : (catE v (L.take (k + 1))).length ≤ c
      · go_wp2
        go_round
        case rel => exact ⟨k + 1, by omega, by go_num, rfl, Or.inr hle⟩
        case measure => simp [intOf]; omega
      · have hle' : decide (((catE v (L.take (k + 1))).length : Int) ≤ (c : Int)) = false := decide_eq_false (by omega)
        have HPk : Hid (∀ w', Gr w w' → Calls Tryd.prog 18 #[.string (S.extract 0 c), .int .i64 v] w' fun e w2 => ∃ ad cap, e = .returned (.tuple #[.slice ad k cap, .int .i64 (catE v (L.take k)).length, .int .i64 (if (catE v (L.take k)).length < c then 10 else 0 : Nat)]) ∧ StrsAt w2 ad (L.take k) ∧ Gr w' w2) := HP.out k hk hkc (Or.inr (by omega))
        generalize catE v (L.take k) = ck at *
        rcases Nat.lt_or_ge ck.length c with hlc | hlc
        · rw [if_pos hlc] at HPk
          go_wp2_with fail
          refine (HPk.out _ (by repeat (first | exact Gr.refl _ | refine Gr.alloc ?_ | refine Gr.drew ?_ | refine Gr.trans ?_ (by assumption)))).mono ?_
          rintro e3 w3 ⟨ad4, cap4, rfl, hst4, hg3⟩
          go_wp2_with fail
          refine (HSM.out _ _ _ (by repeat (first | exact Gr.refl _ | refine Gr.alloc ?_ | refine Gr.drew ?_ | refine Gr.trans ?_ (by assumption))) (HST.out.gr hg3)).mono ?_
          rintro e4 w4 ⟨rfl, hg4⟩
          go_wp2_with fail
          refine (HSK.out _ _ _ k hk (by repeat (first | exact Gr.refl _ | refine Gr.alloc ?_ | refine Gr.drew ?_ | refine Gr.trans ?_ (by assumption))) (hst4.gr hg4)).mono ?_
          rintro e5 w5 ⟨rfl, hg5⟩
          go_wp2_with fail
          refine (HA.out _ (by repeat (first | exact Gr.refl _ | refine Gr.alloc ?_ | refine Gr.drew ?_ | refine Gr.trans ?_ (by assumption)))).mono ?_
          rintro e9 w9 ⟨rfl, hg9⟩
          go_wp2
          go_ret
          exact ⟨rfl, (by repeat (first | exact Gr.refl _ | refine Gr.alloc ?_ | refine Gr.drew ?_ | refine Gr.trans ?_ (by assumption)))⟩
        · rw [if_neg (by omega)] at HPk
          go_wp2_with fail
          refine (HPk.out _ (by repeat (first | exact Gr.refl _ | refine Gr.alloc ?_ | refine Gr.drew ?_ | refine Gr.trans ?_ (by assumption)))).mono ?_
          rintro e3 w3 ⟨ad4, cap4, rfl, hst4, hg3⟩
          go_wp2_with fail
          refine (HSM.out _ _ _ (by repeat (first | exact Gr.refl _ | refine Gr.alloc ?_ | refine Gr.drew ?_ | refine Gr.trans ?_ (by assumption))) (HST.out.gr hg3)).mono ?_
          rintro e4 w4 ⟨rfl, hg4⟩
          go_wp2_with fail
          refine (HSK.out _ _ _ k hk (by repeat (first | exact Gr.refl _ | refine Gr.alloc ?_ | refine Gr.drew ?_ | refine Gr.trans ?_ (by assumption))) (hst4.gr hg4)).mono ?_
          rintro e5 w5 ⟨rfl, hg5⟩
          go_wp2_with fail
          refine (HA.out _ (by repeat (first | exact Gr.refl _ | refine Gr.alloc ?_ | refine Gr.drew ?_ | refine Gr.trans ?_ (by assumption)))).mono ?_
          rintro e9 w9 ⟨rfl, hg9⟩
          go_wp2
          go_ret
          exact ⟨rfl, (by repeat (first | exact Gr.refl _ | refine Gr.alloc ?_ | refine Gr.drew ?_ | refine Gr.trans ?_ (by assumption)))⟩
    · have HPk : Hid (∀ w', Gr w w' → Calls Tryd.prog 18 #[.string (S.extract 0 c), .int .i64 v] w' fun e w2 => ∃ ad cap, e = .returned (.tuple #[.slice ad k cap, .int .i64 (catE v (L.take k)).length, .int .i64 (if (catE v (L.take k)).length < c then 10 else 0 : Nat)]) ∧ StrsAt w2 ad (L.take k) ∧ Gr w' w2) := HP.out k hk hkc (Or.inl (by omega))
      generalize catE v (L.take k) = ck at *
      rcases Nat.lt_or_ge ck.length c with hlc | hlc
      · rw [if_pos hlc] at HPk
        go_wp2_with fail
        refine (HPk.out _ (by repeat (first | exact Gr.refl _ | refine Gr.alloc ?_ | refine Gr.drew ?_ | refine Gr.trans ?_ (by assumption)))).mono ?_
        rintro e3 w3 ⟨ad4, cap4, rfl, hst4, hg3⟩
        go_wp2_with fail
        refine (HSM.out _ _ _ (by repeat (first | exact Gr.refl _ | refine Gr.alloc ?_ | refine Gr.drew ?_ | refine Gr.trans ?_ (by assumption))) (HST.out.gr hg3)).mono ?_
        rintro e4 w4 ⟨rfl, hg4⟩
        go_wp2_with fail
        refine (HSK.out _ _ _ k hk (by repeat (first | exact Gr.refl _ | refine Gr.alloc ?_ | refine Gr.drew ?_ | refine Gr.trans ?_ (by assumption))) (hst4.gr hg4)).mono ?_
        rintro e5 w5 ⟨rfl, hg5⟩
        go_wp2_with fail
        refine (HA.out _ (by repeat (first | exact Gr.refl _ | refine Gr.alloc ?_ | refine Gr.drew ?_ | refine Gr.trans ?_ (by assumption)))).mono ?_
        rintro e9 w9 ⟨rfl, hg9⟩
        go_wp2
        go_ret
        exact ⟨rfl, (by repeat (first | exact Gr.refl _ | refine Gr.alloc ?_ | refine Gr.drew ?_ | refine Gr.trans ?_ (by assumption)))⟩
      · rw [if_neg (by omega)] at HPk
        go_wp2_with fail
        refine (HPk.out _ (by repeat (first | exact Gr.refl _ | refine Gr.alloc ?_ | refine Gr.drew ?_ | refine Gr.trans ?_ (by assumption)))).mono ?_
        rintro e3 w3 ⟨ad4, cap4, rfl, hst4, hg3⟩
        go_wp2_with fail
        refine (HSM.out _ _ _ (by repeat (first | exact Gr.refl _ | refine Gr.alloc ?_ | refine Gr.drew ?_ | refine Gr.trans ?_ (by assumption))) (HST.out.gr hg3)).mono ?_
        rintro e4 w4 ⟨rfl, hg4⟩
        go_wp2_with fail
        refine (HSK.out _ _ _ k hk (by repeat (first | exact Gr.refl _ | refine Gr.alloc ?_ | refine Gr.drew ?_ | refine Gr.trans ?_ (by assumption))) (hst4.gr hg4)).mono ?_
        rintro e5 w5 ⟨rfl, hg5⟩
        go_wp2_with fail
        refine (HA.out _ (by repeat (first | exact Gr.refl _ | refine Gr.alloc ?_ | refine Gr.drew ?_ | refine Gr.trans ?_ (by assumption)))).mono ?_
        rintro e9 w9 ⟨rfl, hg9⟩
        go_wp2
        go_ret
        exact ⟨rfl, (by repeat (first | exact Gr.refl _ | refine Gr.alloc ?_ | refine Gr.drew ?_ | refine Gr.trans ?_ (by assumption)))⟩

set_option maxHeartbeats 4000000 in
set_option maxRecDepth 100000 in
theorem sealBack_nil (v : Int) (ad : Option Addr) (cap : Nat) (w : World) (S : ByteArray)
    (HA : Hid (∀ w', Gr w w' → Calls Tryd.prog 12 #[] w' fun e w2 => e = .returned (.bool true) ∧ Gr w' w2))
    (H0 : Hid (∀ w', Gr w w' → Calls Tryd.prog 8 #[.slice ad 0 cap] w' fun e w2 => e = .returned (.bool true) ∧ w2 = w'))
    (HS : Hid (∀ w', Gr w w' → Calls Tryd.prog 17 #[.int .i64 v, .slice ad 0 cap] w' fun e w2 => ∃ ad2 cap2, e = .returned (.tuple #[.string S, .slice ad2 0 cap2, .bool true]) ∧ IntsAt w2 ad2 (endsL v [] 0) ∧ Gr w' w2))
    (K1 : Hid (∀ w', Gr w w' → Calls Tryd.prog 18 #[.string S, .int .i64 v] w' fun e w2 => ∃ ad cap, e = .returned (.tuple #[.slice ad 0 cap, .int .i64 0, .int .i64 0]) ∧ Gr w' w2))
    (K2 : Hid (∀ w', Gr w w' → Calls Tryd.prog 18 #[.string ByteArray.empty, .int .i64 v] w' fun e w2 => ∃ ad cap, e = .returned (.tuple #[.slice ad 0 cap, .int .i64 0, .int .i64 0]) ∧ Gr w' w2))
    (hSz : S.size = 0) :
    Calls Tryd.prog 6 #[.int .i64 v, .slice ad 0 cap, .int .i64 0] w fun e w' => e = .returned (.bool true) ∧ Gr w w' := by
  go_enter Tryd.func6, Tryd.ntmps6
  go_wp2_with fail
  refine (H0.out _ (by repeat (first | exact Gr.refl _ | refine Gr.alloc ?_ | refine Gr.drew ?_ | refine Gr.trans ?_ (by assumption)))).mono ?_
  rintro e0 w0 ⟨rfl, hw0⟩; obtain rfl := hw0.symm
  go_wp2_with fail
  refine (HS.out _ (by repeat (first | exact Gr.refl _ | refine Gr.alloc ?_ | refine Gr.drew ?_ | refine Gr.trans ?_ (by assumption)))).mono ?_
  rintro e1 w1 ⟨ad2, cap2, rfl, hia, hg1⟩
  go_wp2_with fail
  refine (K1.out _ (by repeat (first | exact Gr.refl _ | refine Gr.alloc ?_ | refine Gr.drew ?_ | refine Gr.trans ?_ (by assumption)))).mono ?_
  rintro e2 w2 ⟨ad3, cap3, rfl, hg2⟩
  go_wp2
  go_loop [13, 14] (fun n a => n = .int .i64 0 ∧ a = .int .i64 0) (fun _ _ => 0)
  case atStart => exact ⟨rfl, rfl⟩
  case round =>
    obtain ⟨rfl, rfl⟩ := hrel
    go_wp2_with fail
    refine (K2.out _ (by repeat (first | exact Gr.refl _ | refine Gr.alloc ?_ | refine Gr.drew ?_ | refine Gr.trans ?_ (by assumption)))).mono ?_
    rintro e3 w3 ⟨ad4, cap4, rfl, hg3⟩
    go_wp2_with fail
    refine (HA.out _ (by repeat (first | exact Gr.refl _ | refine Gr.alloc ?_ | refine Gr.drew ?_ | refine Gr.trans ?_ (by assumption)))).mono ?_
    rintro e9 w9 ⟨rfl, hg9⟩
    go_wp2
    go_ret
    exact ⟨rfl, (by repeat (first | exact Gr.refl _ | refine Gr.alloc ?_ | refine Gr.drew ?_ | refine Gr.trans ?_ (by assumption)))⟩

set_option maxHeartbeats 4000000 in
set_option maxRecDepth 100000 in
theorem sealBack_walk (v p : Int) (L : List ByteArray) (ad : Option Addr) (cap : Nat) (w : World) (hT : Tab w) (hL : StrsAt w ad L) (hn : L.length ≤ 9223372036854775807) (hsz : ∀ s ∈ L, s.size ≤ 9223372036854775807) (hcap : L.length ≤ cap) :
    Calls Tryd.prog 6 #[.int .i64 v, .slice ad L.length cap, .int .i64 p] w fun e w' => e = .returned (.bool true) ∧ Gr w w' := by
  have HA : Hid (∀ w', Gr w w' → Calls Tryd.prog 12 #[] w' fun e w2 => e = .returned (.bool true) ∧ Gr w' w2) := fun w' g => awake2_any w' (hT.gr g)
  have H0 : Hid (∀ w', Gr w w' → Calls Tryd.prog 8 #[.slice ad L.length cap] w' fun e w2 => e = .returned (.bool (Pk.small L)) ∧ w2 = w') := fun w' g => small_any L ad cap w' (hL.gr g) hn hsz
  by_cases hs : Pk.small L = true
  · rw [hs] at H0
    have hsm := Pk.small_sum L hs
    have hfl := flat_small L hs
    have hcl := catE_len v L
    have HS0 := fun w' (g : Gr w w') => sealed_any v L ad cap w' (hT.gr g) (hL.gr g) (by omega) hsz (by omega)
    by_cases hg : goodE v L = true
    · obtain ⟨S, hS⟩ : ∃ S : ByteArray, (⟨(catE v L).toArray⟩ : ByteArray) = S := ⟨_, rfl⟩
      have hSd : S.data.toList = catE v L := by rw [← hS]
      have hSs : S.size = (catE v L).length := by rw [← hSd]; simp
      have HS : Hid (∀ w', Gr w w' → Calls Tryd.prog 17 #[.int .i64 v, .slice ad L.length cap] w' fun e w2 => ∃ ad2 cap2, e = .returned (.tuple #[.string S, .slice ad2 L.length cap2, .bool true]) ∧ IntsAt w2 ad2 (endsL v L L.length) ∧ Gr w' w2) := by
        intro w' g
        refine (HS0 w' g).mono ?_
        rintro e w2 ⟨⟨_, ad2, cap2, rfl, hia⟩ | ⟨h, _⟩, hg2⟩
        · rw [hS]; exact ⟨ad2, cap2, rfl, hia, hg2⟩
        · rw [hg] at h; cases h
      clear HS0
      by_cases hp0 : p < 0
      · clear hT hL hsz hs hsm hfl hcl hS hSd
        go_enter Tryd.func6, Tryd.ntmps6
        go_wp2_with fail
        refine (H0.out _ (by repeat (first | exact Gr.refl _ | refine Gr.alloc ?_ | refine Gr.drew ?_ | refine Gr.trans ?_ (by assumption)))).mono ?_
        rintro e0 w0 ⟨rfl, hw0⟩; obtain rfl := hw0.symm
        go_wp2_with fail
        refine (HS.out _ (by repeat (first | exact Gr.refl _ | refine Gr.alloc ?_ | refine Gr.drew ?_ | refine Gr.trans ?_ (by assumption)))).mono ?_
        rintro e1 w1 ⟨ad2, cap2, rfl, hia, hg1⟩
        go_wp2_with fail
        refine (HA.out _ (by repeat (first | exact Gr.refl _ | refine Gr.alloc ?_ | refine Gr.drew ?_ | refine Gr.trans ?_ (by assumption)))).mono ?_
        rintro e9 w9 ⟨rfl, hg9⟩
        go_wp2
        go_ret
        exact ⟨rfl, (by repeat (first | exact Gr.refl _ | refine Gr.alloc ?_ | refine Gr.drew ?_ | refine Gr.trans ?_ (by assumption)))⟩
      · have hp0' : decide (p < 0) = false := decide_eq_false hp0
        by_cases hp1 : (S.size : Int) < p
        · clear hT hL hsz hs hsm hfl hcl hS hSd
          go_enter Tryd.func6, Tryd.ntmps6
          go_wp2_with fail
          refine (H0.out _ (by repeat (first | exact Gr.refl _ | refine Gr.alloc ?_ | refine Gr.drew ?_ | refine Gr.trans ?_ (by assumption)))).mono ?_
          rintro e0 w0 ⟨rfl, hw0⟩; obtain rfl := hw0.symm
          go_wp2_with fail
          refine (HS.out _ (by repeat (first | exact Gr.refl _ | refine Gr.alloc ?_ | refine Gr.drew ?_ | refine Gr.trans ?_ (by assumption)))).mono ?_
          rintro e1 w1 ⟨ad2, cap2, rfl, hia, hg1⟩
          go_wp2_with fail
          refine (HA.out _ (by repeat (first | exact Gr.refl _ | refine Gr.alloc ?_ | refine Gr.drew ?_ | refine Gr.trans ?_ (by assumption)))).mono ?_
          rintro e9 w9 ⟨rfl, hg9⟩
          go_wp2
          go_ret
          exact ⟨rfl, (by repeat (first | exact Gr.refl _ | refine Gr.alloc ?_ | refine Gr.drew ?_ | refine Gr.trans ?_ (by assumption)))⟩
        · have hp1' : decide ((S.size : Int) < p) = false := decide_eq_false hp1
          obtain ⟨c, rfl⟩ := Int.eq_ofNat_of_zero_le (show 0 ≤ p by omega)
          have HC1 := fun w' (g : Gr w w') => cut_any S v w' (hT.gr g) (by omega)
          have HC2 := fun w' (g : Gr w w') => cut_any (S.extract 0 c) v w' (hT.gr g) (by simp; omega)
          have hSc : (S.extract 0 c).data.toList = S.data.toList.take c := ext0_data S c
          rw [hSc] at HC2
          have hcb : (c : Int) ≤ (S.size : Int) := by omega
          have hc0 : (0 : Int) ≤ (c : Int) := by omega
          by_cases hnil : L = []
          · subst hnil
            have hS0 : S.data.toList = [] := by rw [hSd]; rfl
            have hSz : S.size = 0 := by rw [hSs]; rfl
            have hce : c = 0 := by omega
            subst hce
            have hcut : Sl.cutE [] v = ([], 0, 0) := by
              unfold Sl.cutE; rw [Sl.frames_end [] 0 v (by simp)]; rfl
            have hex : S.extract 0 0 = ByteArray.empty := by simp
            rw [hS0, hcut] at HC1
            rw [hS0, List.take_nil, hcut, hex] at HC2
            have K1 : Hid (∀ w', Gr w w' → Calls Tryd.prog 18 #[.string S, .int .i64 v] w' fun e w2 => ∃ ad cap, e = .returned (.tuple #[.slice ad 0 cap, .int .i64 0, .int .i64 0]) ∧ Gr w' w2) := fun w' g => (HC1 w' g).mono (by rintro e w2 ⟨ad, cap, rfl, _, h⟩; exact ⟨ad, cap, rfl, h⟩)
            have K2 : Hid (∀ w', Gr w w' → Calls Tryd.prog 18 #[.string ByteArray.empty, .int .i64 v] w' fun e w2 => ∃ ad cap, e = .returned (.tuple #[.slice ad 0 cap, .int .i64 0, .int .i64 0]) ∧ Gr w' w2) := fun w' g => (HC2 w' g).mono (by rintro e w2 ⟨ad, cap, rfl, _, h⟩; exact ⟨ad, cap, rfl, h⟩)
            clear HC1 HC2 hS hSd hS0 hcut hT hL hsm hfl hcl hs hg hSc
            exact sealBack_nil v ad cap w S HA H0 HS K1 K2 hSz
          · have hpos : 0 < L.length := List.length_pos_iff.2 hnil
            obtain ⟨b0, off0, rfl, _, _⟩ := hL 0 hpos
            have hga := good_all v L hg
            obtain ⟨k1, _⟩ := catE_cat v (L.map (fun s => s.data.toList)) hga
            rw [map_back] at k1
            have hvv := hga ((L[0]).data.toList) (List.mem_map.2 ⟨L[0], List.getElem_mem hpos, rfl⟩)
            have hx255 : v.toNat ≤ 255 := by omega
            have hvx : ((v.toNat : Nat) : Int) = v := by omega
            obtain ⟨l, hl⟩ : ∃ l, L.map (fun s => s.data.toList) = l := ⟨_, rfl⟩
            have hlm : l.map mkT = L := by rw [← hl]; exact map_back L
            have hll : l.length = L.length := by rw [← hl]; simp
            rw [hl] at k1 hga
            have hlen30 : ∀ b ∈ l, b.length ≤ 30000 := fun b hb => (hga b hb).1
            have hce : ∀ k, catE v (L.take k) = Sl.cat v.toNat (l.take k) := by
              intro k
              have := (catE_cat v (l.take k) (fun b hb => hga b (List.mem_of_mem_take hb))).1
              rw [List.map_take, hlm] at this
              exact this
            have hfull : Sl.cutE S.data.toList v = (l, S.size, 0) := by
              have := Sl.cut_cat v.toNat (Sl.cat v.toNat l).length l.length hx255 l hlen30 (Nat.le_refl _) (Nat.le_refl _) (Or.inl (by rw [List.take_length]; exact Nat.le_refl _)) (Or.inl rfl)
              rw [List.take_length, List.take_length, if_neg (by omega), hvx, ← k1, ← hSd] at this
              rw [this]
              simp
            have hpart : ∀ k, k ≤ L.length → (k = 0 ∨ (catE v (L.take k)).length ≤ c) → (k = L.length ∨ c < (catE v (L.take (k + 1))).length) →
                Sl.cutE (S.data.toList.take c) v = (l.take k, (catE v (L.take k)).length, if (catE v (L.take k)).length < c then 10 else 0) := by
              intro k h1 h2 h3
              rw [hce] at h2 ⊢
              rw [hce] at h3
              have := Sl.cut_cat v.toNat c k hx255 l hlen30 (by rw [← k1]; omega) (by omega) (by omega) (by omega)
              rw [hvx, ← k1, ← hSd] at this
              exact this
            rw [hfull] at HC1
            simp only at HC1
            rw [hlm, hll] at HC1
            have K1 : Hid (∀ w', Gr w w' → Calls Tryd.prog 18 #[.string S, .int .i64 v] w' fun e w2 => ∃ ad cap, e = .returned (.tuple #[.slice ad L.length cap, .int .i64 S.size, .int .i64 0]) ∧ StrsAt w2 ad L ∧ Gr w' w2) := HC1
            have HP : Hid (∀ k, k ≤ L.length → (k = 0 ∨ (catE v (L.take k)).length ≤ c) → (k = L.length ∨ c < (catE v (L.take (k + 1))).length) → ∀ w', Gr w w' →
                Calls Tryd.prog 18 #[.string (S.extract 0 c), .int .i64 v] w' fun e w2 => ∃ ad cap, e = .returned (.tuple #[.slice ad k cap, .int .i64 (catE v (L.take k)).length, .int .i64 (if (catE v (L.take k)).length < c then 10 else 0 : Nat)]) ∧ StrsAt w2 ad (L.take k) ∧ Gr w' w2) := by
              intro k h1 h2 h3 w' g
              have := HC2 w' g
              rw [hpart k h1 h2 h3] at this
              simp only at this
              rw [List.map_take, hlm, List.length_take, hll, Nat.min_eq_left h1] at this
              exact this
            have HSM : Hid (∀ (w' : World) (a : Option Addr) (c1 : Nat), Gr w w' → StrsAt w' a L → Calls Tryd.prog 19 #[.slice a L.length c1, .slice (some ⟨b0, off0, none⟩) L.length cap] w' fun e w2 => e = .returned (.bool true) ∧ Gr w' w2) := fun w' a c1 g h => same_any L a _ c1 cap w' hn h (hL.gr g)
            have HSK : Hid (∀ (w' : World) (a : Option Addr) (c1 k : Nat), k ≤ L.length → Gr w w' → StrsAt w' a (L.take k) → Calls Tryd.prog 19 #[.slice a k c1, .slice (some ⟨b0, off0, none⟩) k cap] w' fun e w2 => e = .returned (.bool true) ∧ Gr w' w2) := by
              intro w' a c1 k hk g h
              have := same_any (L.take k) a (some ⟨b0, off0, none⟩) c1 cap w' (by rw [List.length_take]; omega) h ((hL.take k).gr g)
              rw [List.length_take, Nat.min_eq_left hk] at this
              exact this
            have hle0 : ∀ k, (catE v (L.take k)).length ≤ S.size := fun k => by rw [hSs]; exact catE_take_le v L k
            have HLE : Hid (∀ k, (catE v (L.take k)).length ≤ S.size) := hle0
            have hnz : ((L.length : Int) == 0) = false := by rw [beq_eq_false_iff_ne]; omega
            have h5000 : L.length ≤ 5000 := hsm.2.1
            exact sealBack_core v c L cap b0 off0 w S HA H0 HS K1 HP HSM HSK hcb hc0 hnz h5000 hp0' hcap
    · have hg' : goodE v L = false := by simpa using hg
      have HS : Hid (∀ w', Gr w w' → Calls Tryd.prog 17 #[.int .i64 v, .slice ad L.length cap] w' fun e w2 => e = .returned (.tuple #[.string ⟨#[]⟩, .slice none 0 0, .bool false]) ∧ Gr w' w2) := by
        intro w' g
        refine (HS0 w' g).mono ?_
        rintro e w2 ⟨⟨h, _⟩ | ⟨_, rfl⟩, hg2⟩
        · rw [hg'] at h; cases h
        · exact ⟨rfl, hg2⟩
      clear HS0 hT hL hsz hs hsm hfl hcl hg hg'
      go_enter Tryd.func6, Tryd.ntmps6
      go_wp2_with fail
      refine (H0.out _ (by repeat (first | exact Gr.refl _ | refine Gr.alloc ?_ | refine Gr.drew ?_ | refine Gr.trans ?_ (by assumption)))).mono ?_
      rintro e0 w0 ⟨rfl, hw0⟩; obtain rfl := hw0.symm
      go_wp2_with fail
      refine (HS.out _ (by repeat (first | exact Gr.refl _ | refine Gr.alloc ?_ | refine Gr.drew ?_ | refine Gr.trans ?_ (by assumption)))).mono ?_
      rintro e1 w1 ⟨rfl, hg1⟩
      go_wp2_with fail
      refine (HA.out _ (by repeat (first | exact Gr.refl _ | refine Gr.alloc ?_ | refine Gr.drew ?_ | refine Gr.trans ?_ (by assumption)))).mono ?_
      rintro e9 w9 ⟨rfl, hg9⟩
      go_wp2
      go_ret
      exact ⟨rfl, (by repeat (first | exact Gr.refl _ | refine Gr.alloc ?_ | refine Gr.drew ?_ | refine Gr.trans ?_ (by assumption)))⟩
  · have hs' : Pk.small L = false := by simpa using hs
    rw [hs'] at H0
    clear hT hL hsz hs hs'
    go_enter Tryd.func6, Tryd.ntmps6
    go_wp2_with fail
    refine (H0.out _ (by repeat (first | exact Gr.refl _ | refine Gr.alloc ?_ | refine Gr.drew ?_ | refine Gr.trans ?_ (by assumption)))).mono ?_
    rintro e0 w0 ⟨rfl, hw0⟩; obtain rfl := hw0.symm
    go_wp2_with fail
    refine (HA.out _ (by repeat (first | exact Gr.refl _ | refine Gr.alloc ?_ | refine Gr.drew ?_ | refine Gr.trans ?_ (by assumption)))).mono ?_
    rintro e9 w9 ⟨rfl, hg9⟩
    go_wp2
    go_ret
    exact ⟨rfl, (by repeat (first | exact Gr.refl _ | refine Gr.alloc ?_ | refine Gr.drew ?_ | refine Gr.trans ?_ (by assumption)))⟩

set_option maxRecDepth 100000 in
theorem sealBack_lifted (os : Os) (started : os.Started) (H : Type) (enc : TypeId × Value → H) :
    ReturnsInHanded {} Tryd.checked os 6 .any (fun w args => (Rows.sealBackSpec.pre enc Tryd.prog Tryd.f6 [] false w args ∧ laidMetH Tryd.prog laidL w) ∧ sizedMet enc Tryd.prog Tryd.f6 (OpenSpec.ofChange Rows.sealBackSpec) false w args)
      (Rows.sealBackSpec.post enc Tryd.prog Tryd.f6 false true false false) := by
  refine returnsInHanded_of_change_and (C := Tryd.checked) (X := fun w _ => laidMetH Tryd.prog laidL w) (fun _ _ _ hh h => h.of_heap hh) own2 started (by kernel_rfl) Tryd.func6
    (ChangeSpec.witness_shaped (enc := enc) (C := Tryd.checked) (os := os) (X := fun w _ => laidMetH Tryd.prog laidL w) false (World.doorLaid Tryd.prog 400 os) #[.int .i64 0, .slice none 0 0, .int .i64 0] 8 rfl (World.shaped_of_RefB (by kernel_rfl) (by kernel_rfl)) (by kernel_rfl) (by kernel_rfl) (by kernel_rfl) (door_met os _)) ?_
  intro W base args ds gs before hval0 hW _ hsz0 hL _
  have hval : ∀ (j : Nat) t v, Tryd.f6.params[j]? = some t → args[j]? = some v → Value.okWide Tryd.prog W .any base t v := hval0
  have hsz : (DataW.weightsEach Tryd.prog (Tryd.f6.params.toList ++ Rows.sealBackSpec.plain.varTypes Tryd.prog) (ds ++ gs)).all (· ≤ reachBytes) = true := hsz0
  have hW' := hW
  obtain ⟨p, q, hA0, hV, rfl, hfz, hnd⟩ := hW
  have hA : DataW.TrodAll enc Tryd.prog W 0 (fun _ => true) true Tryd.f6.params.toList args.toList ds p := hA0
  rw [Tryd.params6] at hA hval hsz
  obtain ⟨v0, v1, v2, d0, d1, d2, p0, p1, p2, rfl, rfl, rfl, h0, h1, h2⟩ := trodAll_three hA
  obtain ⟨rfl, rfl⟩ := trodVars_none hV
  have k1 := h1
  have lt1 : ∀ x ∈ p1, x.block < W.heap.size := by obtain ⟨m, hm⟩ := k1; exact DataW.trod_lt m _ _ _ hm
  obtain ⟨a0, rfl, rfl, rfl, wa0⟩ := open_int Tryd.underlying3 (hval 0 3 v0 rfl rfl) h0
  obtain ⟨ad1, cap1, L1, rfl, hL1, hn1, hz1, hcap1⟩ := open_strs (hval 1 22 v1 rfl rfl) h1
  obtain ⟨a2, rfl, rfl, rfl, wa2⟩ := open_int Tryd.underlying3 (hval 2 3 v2 rfl rfl) h2
  clear hA0 hval0
  have hT := tab_of_laid hL
  refine (sealBack_walk a0 a2 L1 ad1 cap1 W hT hL1 hn1 hz1 hcap1).mono fun e W' ⟨he, hg⟩ => ?_
  subst he
  exact ⟨_, rfl, _, _, _, [], _, [], hW', trodAll_mk1 (shut_bool Tryd.underlying4 _), trodAll_mk3 (shut_int Tryd.underlying3 wa0) (Below.trod laidOut2 (by kernel_rfl) (of_decide_eq_true (by kernel_rfl)) k1 hg.below lt1) (shut_int Tryd.underlying3 wa2), rfl, hg.below.frame _, fun h => by cases h⟩

theorem sealBack_holds : Rows.SealBackSaid :=
  OpenClaim.holds_of_wide 6 Tryd.f6 rfl rfl rfl rfl rfl rfl rfl ⟨rfl, rfl, rfl, rfl, rfl⟩ rfl rfl rfl rfl rfl (by kernel_rfl) Tryd.func6 (by kernel_rfl)
    (of_decide_eq_true (by kernel_rfl)) (by unfold Func.isWrapper; first | (rw [if_pos (by decide +kernel)]; kernel_rfl) | (rw [if_neg (by decide +kernel)]; exact ⟨rfl, rfl⟩))
    (fun os started H enc _ => sealBack_lifted os started H enc)

theorem sealBack_card_holds : Rows.SealBackCardSaid :=
  Claim7.holds_tied_plain_at .later [] [.data] true (true, "1c24556f4e88b58e43e1ad978c52960a73eb3474e9c74cdefc0d2444945d9111") false
    sealBack_holds (fun _ h => by cases h) (by kernel_rfl) (fun _ h => by cases h) sealBack_row_tie rfl ⟨rfl, rfl⟩ (by kernel_rfl) rfl
    (fun f fn hf hfn => by
      obtain rfl : f = 6 := Option.some.inj ((show Tryd.prog.funcNamed "entente/ententelaw02.SealBack" = some 6 by kernel_rfl).symm.trans hf) |>.symm
      obtain rfl : fn = Tryd.f6 := (Option.some.inj (Tryd.func6.symm.trans hfn)).symm
      exact ⟨by kernel_rfl, fun j t ht => by
        rw [Tryd.params6] at ht
        have hm : t ∈ [3, 22, 3] := by simpa using Array.mem_of_getElem? ht
        have hall : ([3, 22, 3].all fun u => !Tryd.prog.wantsStandIn u) = true := by kernel_rfl
        exact (show Tryd.prog.wantsStandIn t = false by simpa using List.all_eq_true.1 hall t hm)⟩)
    (by kernel_rfl)
end Go.Proofs.YtpdcnnlbafcohaaDoor
