/- For every int64, every slice of strings and every two strings around the law PackBack answers true: what was laid is taken again, wherever it stands, whatever is behind. -/
import Derived.Test.YtnkbnjkdlnafpaaOpenS
import Derived.Test.YtnkbnjkdlnafpaaAwk
import Derived.Test.YtnkbnjkdlnafpaaSgn
import Derived.Test.YtnkbnjkdlnafpaaRefTakeL
import Derived.Test.YtnkbnjkdlnafpaaMath7
namespace Go.Proofs.Ytnkbnjkdlnafpaa
open Go.ChangeShapes Go.WideShapes Go.ChangeAt Go.RowKit

theorem map_back (L : List ByteArray) : (L.map (fun s => s.data.toList)).map mkT = L := by
  induction L with
  | nil => rfl
  | cons t l ih => simp only [List.map_cons, ih]; rfl
theorem wrap_u (n : Int) : ∃ u : Nat, IntKind.u64.wrap n = (u : Int) ∧ u < 18446744073709551616 := by
  have h0 : 0 ≤ IntKind.u64.wrap n := by rw [IntKind.wrap_u64]; omega
  obtain ⟨u, hu⟩ := Int.eq_ofNat_of_zero_le h0
  refine ⟨u, hu, ?_⟩
  have h1 : IntKind.u64.wrap n < 18446744073709551616 := by rw [IntKind.wrap_u64]; omega
  omega

/- the law where it looks at nothing -/
set_option maxHeartbeats 1000000 in
set_option maxRecDepth 100000 in
theorem packBack_idle (n : Int) (L : List ByteArray) (ad : Option Addr) (cap : Nat) (A Z : ByteArray) (w : World) (hL : StrsAt w ad L) (hn : L.length ≤ 9223372036854775807) (hsz : ∀ s ∈ L, s.size ≤ 9223372036854775807)
    (hA : A.size ≤ 9223372036854775807) (hZ : Z.size ≤ 9223372036854775807) (h : Pk.small L = false ∨ 10000 < A.size ∨ 10000 < Z.size) :
    Calls Try.prog 7 #[.int .i64 n, .slice ad L.length cap, .agg #[.string A, .string Z]] w fun e w' => e = .returned (.bool true) ∧ Gr w w' := by
  have H1 : Hid (∀ w' : World, Gr w w' → Calls Try.prog 14 #[.slice ad L.length cap] w' fun e w2 => e = .returned (.bool (Pk.small L)) ∧ w2 = w') := fun w' g => small_any L ad cap w' (hL.gr g) hn hsz
  clear hL hsz hn
  cases hs : Pk.small L with
  | false =>
    rw [hs] at H1
    clear h
    go_enter Try.func7, Try.ntmps7
    go_wp2_with fail
    refine (H1.out _ (by exact (by repeat (first | exact Gr.refl _ | refine Gr.alloc ?_ | refine Gr.drew ?_ | refine Gr.trans ?_ (by assumption))))).mono ?_
    rintro e w1 ⟨rfl, rfl⟩
    go_wp2_with fail
    refine (awake_any _).mono ?_
    rintro e w2 ⟨rfl, hg2⟩
    go_wp2
    go_ret
    exact ⟨rfl, (by repeat (first | exact Gr.refl _ | refine Gr.alloc ?_ | refine Gr.drew ?_ | refine Gr.trans ?_ (by assumption)))⟩
  | true =>
    rw [hs] at H1 h
    by_cases hA2 : 10000 < A.size
    · clear h
      go_enter Try.func7, Try.ntmps7
      go_wp2_with fail
      refine (H1.out _ (by exact (by repeat (first | exact Gr.refl _ | refine Gr.alloc ?_ | refine Gr.drew ?_ | refine Gr.trans ?_ (by assumption))))).mono ?_
      rintro e w1 ⟨rfl, rfl⟩
      go_wp2_with fail
      refine (awake_any _).mono ?_
      rintro e w2 ⟨rfl, hg2⟩
      go_wp2
      go_ret
      exact ⟨rfl, (by repeat (first | exact Gr.refl _ | refine Gr.alloc ?_ | refine Gr.drew ?_ | refine Gr.trans ?_ (by assumption)))⟩
    · have hZ2 : 10000 < Z.size := by
        rcases h with h | h | h
        · cases h
        · omega
        · exact h
      clear h
      go_enter Try.func7, Try.ntmps7
      go_wp2_with fail
      refine (H1.out _ (by exact (by repeat (first | exact Gr.refl _ | refine Gr.alloc ?_ | refine Gr.drew ?_ | refine Gr.trans ?_ (by assumption))))).mono ?_
      rintro e w1 ⟨rfl, rfl⟩
      go_wp2_with fail
      refine (awake_any _).mono ?_
      rintro e w2 ⟨rfl, hg2⟩
      go_wp2
      go_ret
      exact ⟨rfl, (by repeat (first | exact Gr.refl _ | refine Gr.alloc ?_ | refine Gr.drew ?_ | refine Gr.trans ?_ (by assumption)))⟩

/- the law where it looks: over what the calls answer -/
set_option maxHeartbeats 2000000 in
set_option maxRecDepth 100000 in
theorem packBack_core (n : Int) (L : List ByteArray) (ad : Option Addr) (cap : Nat) (A Z sa sb sc s1 s2 s3 s4 : List UInt8) (u i j k : Nat) (w : World)
    (hA : A.length ≤ 10000) (hZ : Z.length ≤ 10000) (hu : IntKind.u64.wrap n = (u : Int))
    (H0 : Hid (∀ w' : World, Gr w w' → Calls Try.prog 14 #[.slice ad L.length cap] w' fun e w2 => e = .returned (.bool true) ∧ w2 = w'))
    (H1 : Hid (∀ w : World, Calls Try.prog 11 #[.int .i64 n] w fun e w' => e = .returned (.string ⟨sa.toArray⟩) ∧ Gr w w'))
    (H2 : Hid (∀ w : World, Calls Try.prog 9 #[.int .u64 u] w fun e w' => e = .returned (.string ⟨sb.toArray⟩) ∧ Gr w w'))
    (H3 : Hid (∀ w' : World, Gr w w' → Calls Try.prog 17 #[.slice ad L.length cap] w' fun e w2 => e = .returned (.string ⟨sc.toArray⟩) ∧ Gr w' w2))
    (e1 : ∀ w : World, (Op.stringOp .add ⟨A.toArray⟩ ⟨sa.toArray⟩).run Try.prog w = .ok (.string ⟨s1.toArray⟩) w)
    (e2 : ∀ w : World, (Op.stringOp .add ⟨s1.toArray⟩ ⟨sb.toArray⟩).run Try.prog w = .ok (.string ⟨s2.toArray⟩) w)
    (e3 : ∀ w : World, (Op.stringOp .add ⟨s2.toArray⟩ ⟨sc.toArray⟩).run Try.prog w = .ok (.string ⟨s3.toArray⟩) w)
    (e4 : ∀ w : World, (Op.stringOp .add ⟨s3.toArray⟩ ⟨Z.toArray⟩).run Try.prog w = .ok (.string ⟨s4.toArray⟩) w)
    (H4 : Hid (∀ w : World, Calls Try.prog 21 #[.string ⟨s4.toArray⟩, .int .i64 A.length] w fun e w' => e = .returned (.tuple #[.int .i64 n, .int .i64 i, .int .i64 0]) ∧ w' = w))
    (H5 : Hid (∀ w : World, Calls Try.prog 19 #[.string ⟨s4.toArray⟩, .int .i64 i] w fun e w' => e = .returned (.tuple #[.int .u64 u, .int .i64 j, .int .i64 0]) ∧ w' = w))
    (H6 : Hid (∀ w : World, Calls Try.prog 25 #[.string ⟨s4.toArray⟩, .int .i64 j] w fun e w' => ∃ ad2 cap2, e = .returned (.tuple #[.slice ad2 L.length cap2, .int .i64 k, .int .i64 0]) ∧ StrsAt w' ad2 L ∧ Gr w w'))
    (H7 : Hid (∀ (w' : World) (ad2 : Option Addr) (cap2 : Nat), Gr w w' → StrsAt w' ad2 L → Calls Try.prog 27 #[.slice ad2 L.length cap2, .slice ad L.length cap] w' fun e w2 => e = .returned (.bool true) ∧ Gr w' w2))
    (hla : sa.length ≤ 10) (hlb : sb.length ≤ 10) (hlc : sc.length ≤ 60000) (hi : i ≤ 1000000) (hj : j ≤ 1000000)
    (hi1 : ((i : Int) == (A.length : Int) + (sa.length : Int)) = true) (hj1 : ((j : Int) == (i : Int) + (sb.length : Int)) = true) (hk1 : ((k : Int) == (j : Int) + (sc.length : Int)) = true) :
    Calls Try.prog 7 #[.int .i64 n, .slice ad L.length cap, .agg #[.string ⟨A.toArray⟩, .string ⟨Z.toArray⟩]] w fun e w' => e = .returned (.bool true) ∧ Gr w w' := by
  go_enter Try.func7, Try.ntmps7
  go_wp2_with fail
  refine (H0.out _ (by exact (by repeat (first | exact Gr.refl _ | refine Gr.alloc ?_ | refine Gr.drew ?_ | refine Gr.trans ?_ (by assumption))))).mono ?_
  rintro e w1 ⟨rfl, hw1⟩
  obtain rfl := hw1.symm
  clear hw1
  go_wp2_with fail
  refine (H1.out _).mono ?_
  rintro e w2 ⟨rfl, hg2⟩
  have hx0 : w2.cell? ⟨w.heap.size, 0, none⟩ = some (.string ⟨A.toArray⟩) := hg2.keep (by simp)
  have hx1 : w2.cell? ⟨w.heap.size, 1, none⟩ = some (.string ⟨Z.toArray⟩) := hg2.keep (by simp)
  go_wp2_with fail
  refine (H2.out _).mono ?_
  rintro e w3 ⟨rfl, hg3⟩
  have hx0' : w3.cell? ⟨w.heap.size, 0, none⟩ = some (.string ⟨A.toArray⟩) := hg3.keep hx0
  have hx1' : w3.cell? ⟨w.heap.size, 1, none⟩ = some (.string ⟨Z.toArray⟩) := hg3.keep hx1
  go_wp2_with fail
  refine (H3.out _ (by exact (by repeat (first | exact Gr.refl _ | refine Gr.alloc ?_ | refine Gr.drew ?_ | refine Gr.trans ?_ (by assumption))))).mono ?_
  rintro e w4 ⟨rfl, hg4⟩
  have hx0'' : w4.cell? ⟨w.heap.size, 0, none⟩ = some (.string ⟨A.toArray⟩) := hg4.keep hx0'
  have hx1'' : w4.cell? ⟨w.heap.size, 1, none⟩ = some (.string ⟨Z.toArray⟩) := hg4.keep hx1'
  clear hx0 hx1 hx0' hx1'
  go_wp2_with fail
  refine (H4.out _).mono ?_
  rintro e w5 ⟨rfl, rfl⟩
  go_wp2_with fail
  refine (H5.out _).mono ?_
  rintro e w5 ⟨rfl, rfl⟩
  go_wp2_with fail
  refine (H6.out _).mono ?_
  rintro e w6 ⟨ad2, cap2, rfl, hst, hg6⟩
  have H7' := H7.out w6 ad2 cap2 (by exact (by repeat (first | exact Gr.refl _ | refine Gr.alloc ?_ | refine Gr.drew ?_ | refine Gr.trans ?_ (by assumption)))) hst
  have H7'' : Hid (Calls Try.prog 27 #[.slice ad2 L.length cap2, .slice ad L.length cap] w6 fun e w2 => e = .returned (.bool true) ∧ Gr w6 w2) := H7'
  clear hst H7'
  go_wp2_with fail
  refine H7''.out.mono ?_
  rintro e w7 ⟨rfl, hg7⟩
  go_wp2_with fail
  refine (awake_any _).mono ?_
  rintro e w8 ⟨rfl, hg8⟩
  go_wp2
  go_ret
  exact ⟨by simp, (by repeat (first | exact Gr.refl _ | refine Gr.alloc ?_ | refine Gr.drew ?_ | refine Gr.trans ?_ (by assumption)))⟩

theorem packBack_walk (n : Int) (L : List ByteArray) (ad : Option Addr) (cap : Nat) (A Z : ByteArray) (w : World) (hn0 : -9223372036854775808 ≤ n) (hn1 : n < 9223372036854775808) (hL : StrsAt w ad L) (hn : L.length ≤ 9223372036854775807) (hsz : ∀ s ∈ L, s.size ≤ 9223372036854775807)
    (hA : A.size ≤ 9223372036854775807) (hZ : Z.size ≤ 9223372036854775807) :
    Calls Try.prog 7 #[.int .i64 n, .slice ad L.length cap, .agg #[.string A, .string Z]] w fun e w' => e = .returned (.bool true) ∧ Gr w w' := by
  by_cases h : Pk.small L = false ∨ 10000 < A.size ∨ 10000 < Z.size
  · exact packBack_idle n L ad cap A Z w hL hn hsz hA hZ h
  · have hs : Pk.small L = true := by
      cases hq : Pk.small L with
      | true => rfl
      | false => exact absurd (Or.inl hq) h
    obtain ⟨hl1, hl2, hl3⟩ := Pk.small_sum L hs
    obtain ⟨a, rfl⟩ : ∃ l : List UInt8, A = ⟨l.toArray⟩ := ⟨A.data.toList, by simp⟩
    obtain ⟨z, rfl⟩ : ∃ l : List UInt8, Z = ⟨l.toArray⟩ := ⟨Z.data.toList, by simp⟩
    have hA2 : a.length ≤ 10000 := by
      have : (⟨a.toArray⟩ : ByteArray).size = a.length := by simp [ByteArray.size]
      omega
    have hZ2 : z.length ≤ 10000 := by
      have : (⟨z.toArray⟩ : ByteArray).size = z.length := by simp [ByteArray.size]
      omega
    obtain ⟨u, hu, hu64⟩ := wrap_u n
    have hsg := Pk.sgn_lt n hn0 hn1
    have hla := Pk.num_len (Pk.sgn n)
    have hlb := Pk.num_len u
    let sa := Pk.num (Pk.sgn n)
    let sb := Pk.num u
    let sc := Pk.texts L
    have hall : a ++ sa ++ sb ++ sc ++ z = a ++ (sa ++ (sb ++ (sc ++ z))) := by simp
    have hall2 : a ++ sa ++ sb ++ sc ++ z = (a ++ sa) ++ (sb ++ (sc ++ z)) := by simp
    have hall3 : a ++ sa ++ sb ++ sc ++ z = (a ++ sa ++ sb) ++ (sc ++ z) := by simp
    have hs4 : (⟨(a ++ sa ++ sb ++ sc ++ z).toArray⟩ : ByteArray).size ≤ 1000000 := by
      show (a ++ sa ++ sb ++ sc ++ z).toArray.size ≤ _
      simp only [List.size_toArray, List.length_append, sa, sb, sc]; omega
    refine packBack_core n L ad cap a z sa sb sc (a ++ sa) (a ++ sa ++ sb) (a ++ sa ++ sb ++ sc) (a ++ sa ++ sb ++ sc ++ z) u (a.length + sa.length) (a.length + sa.length + sb.length) (a.length + sa.length + sb.length + sc.length) w hA2 hZ2 hu ?_ ?_ ?_ ?_ ?_ ?_ ?_ ?_ ?_ ?_ ?_ ?_ hla.2 hlb.2 (by show (Pk.texts L).length ≤ _; omega) (by simp only [sa]; omega) (by simp only [sa, sb]; omega) ?_ ?_ ?_
    · intro w' g
      have := small_any L ad cap w' (hL.gr g) hn hsz
      rwa [hs] at this
    · exact fun w => signed_any n w hn0 hn1
    · exact fun w => number_any u w hu64
    · exact fun w' g => texts_any L ad cap w' (hL.gr g) (by omega) (by omega)
    · exact add_lists _ _ (by simp only [sa]; omega)
    · exact add_lists _ _ (by simp only [List.length_append, sa, sb]; omega)
    · exact add_lists _ _ (by simp only [List.length_append, sa, sb, sc]; omega)
    · exact add_lists _ _ (by simp only [List.length_append, sa, sb, sc]; omega)
    · intro w
      have h1 := takeSigned_any ⟨(a ++ sa ++ sb ++ sc ++ z).toArray⟩ (a.length : Int) w (by omega)
      have e1 : (⟨(a ++ sa ++ sb ++ sc ++ z).toArray⟩ : ByteArray).data.toList = a ++ (sa ++ (sb ++ (sc ++ z))) := by rw [← hall]
      rw [e1, Pk.takeNum_at a _ _ hsg] at h1
      simp only [Pk.unsg_sgn] at h1
      exact h1
    · intro w
      have h1 := takeNumber_any ⟨(a ++ sa ++ sb ++ sc ++ z).toArray⟩ ((a ++ sa).length : Int) w (by omega)
      have e1 : (⟨(a ++ sa ++ sb ++ sc ++ z).toArray⟩ : ByteArray).data.toList = (a ++ sa) ++ (sb ++ (sc ++ z)) := by rw [← hall2]
      rw [e1, Pk.takeNum_at (a ++ sa) _ _ hu64, List.length_append] at h1
      exact h1
    · intro w
      have h1 := takeTexts_any ⟨(a ++ sa ++ sb ++ sc ++ z).toArray⟩ ((a ++ sa ++ sb).length : Int) w hs4
      have e1 : (⟨(a ++ sa ++ sb ++ sc ++ z).toArray⟩ : ByteArray).data.toList = (a ++ sa ++ sb) ++ (sc ++ z) := by rw [← hall3]
      rw [e1, Pk.takeTexts_at (a ++ sa ++ sb) z L (by omega) (fun s h => by have := hl3 s h; omega)] at h1
      simp only [map_back, List.length_map, List.length_append] at h1
      exact h1
    · intro w' ad2 cap2 g h2
      exact same_any L ad2 ad cap2 cap w' hn h2 (hL.gr g)
    · simp
    · simp
    · simp

theorem open_arr {H : Type} {enc : TypeId × Value → H} {W : World} {base : Nat} {v : Value} {d : DataW H} {ps : List MemPlace}
    (hok : Value.okWide Try.prog W .any base 51 v) (h : DataW.Trod enc Try.prog W 0 (fun _ => true) true 51 v d ps) :
    ∃ A Z, v = .agg #[.string A, .string Z] ∧ A.size ≤ 9223372036854775807 ∧ Z.size ≤ 9223372036854775807 := by
  simp only [Value.okWide, Try.underlying51] at hok
  obtain ⟨cs, rfl, hcs, _⟩ := hok
  have hc2 : Try.prog.cellsOf 51 = 2 := by kernel_rfl
  have hc1 : Try.prog.cellsOf 9 = 1 := by kernel_rfl
  rw [hc2] at hcs
  obtain ⟨fuel, hf⟩ := h
  obtain ⟨xs, m, _, _, _, hl, hx⟩ := DataW.trod_array Try.underlying51 hf
  have x0 := hx 0 (by omega)
  have x1 := hx 1 (by omega)
  rw [hc1] at x0 x1
  obtain ⟨l⟩ := cs
  match l, hcs with
  | [c0, c1], _ =>
    match xs, hl with
    | [y0, y1], _ =>
      simp [Value.cells] at x0 x1
      obtain ⟨A, e0, _, w0⟩ := DataW.trod_string Try.underlying9 x0
      obtain ⟨Z, e1, _, w1⟩ := DataW.trod_string Try.underlying9 x1
      simp at e0 e1
      subst e0 e1
      exact ⟨A, Z, rfl, w0, w1⟩

theorem back_own : ownKnob Try.prog.godebug = none := by kernel_rfl
theorem back_laidOut : laidOutB Try.prog = true := by kernel_rfl

set_option maxRecDepth 100000 in
theorem packBack_lifted (os : Os) (started : os.Started) (H : Type) (enc : TypeId × Value → H) :
    ReturnsInHanded {} Try.checked os 7 .any (Rows.packBackSpec.pre6 enc Try.prog Try.f7 Rows.packBackRow.domain false) (Rows.packBackSpec.post enc Try.prog Try.f7 false true false false) := by
  refine returnsInHanded_of_change (C := Try.checked) back_own started (by kernel_rfl) Try.func7
    (ChangeSpec.witness6 (enc := enc) (C := Try.checked) false ⟨#[], #[.int .i64 0, .slice none 0 0, .agg #[.string ByteArray.empty, .string ByteArray.empty]], []⟩ 8 (by kernel_rfl) (by kernel_rfl) (by kernel_rfl) (by kernel_rfl)) ?_
  intro W base args ds gs before hval0 hW hcnd _
  have hval : ∀ (j : Nat) t v, Try.f7.params[j]? = some t → args[j]? = some v → Value.okWide Try.prog W .any base t v := hval0
  have hW' := hW
  obtain ⟨p, q, hA0, hV, rfl, hfz, hnd⟩ := hW
  have hA : DataW.TrodAll enc Try.prog W 0 (fun _ => true) true Try.f7.params.toList args.toList ds p := hA0
  rw [Try.params7] at hA hval
  obtain ⟨v0, v1, v2, d0, d1, d2, p0, p1, p2, rfl, rfl, rfl, h0, h1, h2⟩ := trodAll_three hA
  obtain ⟨rfl, rfl⟩ := trodVars_none hV
  have k1 := h1
  have k2 := h2
  have lt1 : ∀ x ∈ p1, x.block < W.heap.size := by obtain ⟨m, hm⟩ := k1; exact DataW.trod_lt m _ _ _ hm
  have lt2 : ∀ x ∈ p2, x.block < W.heap.size := by obtain ⟨m, hm⟩ := k2; exact DataW.trod_lt m _ _ _ hm
  obtain ⟨a, rfl, rfl, rfl, wa⟩ := open_int Try.underlying2 (hval 0 2 v0 rfl rfl) h0
  obtain ⟨ad, cap, L, rfl, hL, hn, hsz⟩ := open_strs (hval 1 27 v1 rfl rfl) h1
  obtain ⟨A, Z, rfl, hAs, hZs⟩ := open_arr (hval 2 51 v2 rfl rfl) h2
  clear hA0 hval0
  have ba := bounds_i64 wa
  refine (packBack_walk a L ad cap A Z W (by omega) (by omega) hL hn hsz hAs hZs).mono fun e W' ⟨he, hg⟩ => ?_
  subst he
  exact ⟨_, rfl, _, _, _, [], _, [], hW', trodAll_mk1 (shut_bool Try.underlying4 _), trodAll_mk3 (shut_int Try.underlying2 wa) (Below.trod back_laidOut (by kernel_rfl) (of_decide_eq_true (by kernel_rfl)) k1 hg.below lt1) (Below.trod back_laidOut (by kernel_rfl) (of_decide_eq_true (by kernel_rfl)) k2 hg.below lt2), rfl, hg.below.frame _, fun h => by cases h⟩

theorem packBack_holds : Rows.PackBackSaid :=
  OpenClaim.holds_of_wide 7 Try.f7 rfl rfl rfl rfl rfl rfl rfl ⟨rfl, rfl, rfl, rfl, rfl⟩ rfl rfl rfl rfl rfl (by kernel_rfl) Try.func7 (by kernel_rfl)
    (of_decide_eq_true (by kernel_rfl)) (by unfold Func.isWrapper; first | (rw [if_pos (by decide +kernel)]; kernel_rfl) | (rw [if_neg (by decide +kernel)]; exact ⟨rfl, rfl⟩))
    (fun os started H enc _ => packBack_lifted os started H enc)
end Go.Proofs.Ytnkbnjkdlnafpaa
