/- The document's TakeTexts takes what Pk.takeTexts takes; Same answers true at two like lists. -/
import Derived.Test.YtnkbnjkdlnafpaaTakeL
namespace Go.Proofs.Ytnkbnjkdlnafpaa
open Go.RowKit

set_option maxHeartbeats 1000000 in
set_option maxRecDepth 100000 in
theorem refTakeTexts_any (s : ByteArray) (p : Int) (w : World) (hs : s.size ≤ 1000000) :
    Calls Try.prog 26 #[.string s, .int .i64 p] w fun e w' => ∃ ad cap, e = .returned (.tuple #[.slice ad (Pk.takeTexts s.data.toList p).1.length cap, .int .i64 (Pk.takeTexts s.data.toList p).2.1, .int .i64 (Pk.takeTexts s.data.toList p).2.2]) ∧
      StrsAt w' ad ((Pk.takeTexts s.data.toList p).1.map mkT) ∧ Gr w w' := by
  obtain ⟨i0, hi, hz0, hz1, hz2⟩ := info_parts info9
  have hsp := Pk.takeNum_spec s.data.toList p
  have hsz : s.data.toList.length = s.size := by simp
  have hdef : Pk.takeTexts s.data.toList p = _ := rfl
  conv at hdef => rhs; unfold Pk.takeTexts
  have HC : Hid (∀ w : World, Calls Try.prog 20 #[.string s, .int .i64 p] w fun e w' => e = .returned (.tuple #[.int .u64 (Pk.takeNum s.data.toList p).1, .int .i64 (Pk.takeNum s.data.toList p).2.1, .int .i64 (Pk.takeNum s.data.toList p).2.2]) ∧ Gr w w') := fun w => refTakeNumber_any s p w (by omega)
  generalize Pk.takeNum s.data.toList p = R at *
  generalize Pk.takeTexts s.data.toList p = T at *
  obtain ⟨n, q, e⟩ := R
  simp only at *
  rw [hsz] at hsp
  rcases hsp with ⟨rfl, h1, h2, h3, h4⟩ | h | h | h
  · rw [if_neg (by simp)] at hdef
    have HD : Hid (T = Pk.takeList s.data.toList n q []) := hdef
    have HZ : Hid (s.data.toList.length = s.size) := hsz
    clear hdef hsz h3 h2
    go_enter Try.func26, Try.ntmps26
    go_wp2_with fail
    refine (HC.out _).mono ?_
    rintro e w1 ⟨rfl, hg1⟩
    go_wp2_with fail
    go_loopw [8, 10] (fun t l wr => ∃ (x : Nat) (acc : List (List UInt8)) (c : Nat) (ad : Option Addr), acc.length ≤ n ∧ t = .int .i64 x ∧ x ≤ s.size ∧ acc.length ≤ x ∧ T = Pk.takeList s.data.toList (n - acc.length) x acc ∧
        l = .slice ad acc.length c ∧ wr.ownsRow w.heap.size 9 1 l acc.length (strV acc) ∧ Below w.heap.size w wr)
      (fun t _ _ => s.size - (intOf t).toNat)
    case atStart => exact ⟨q, [], 0, none, by simp, rfl, by omega, by simp, by simpa using HD.out, rfl, World.ownsRow_nil _ _ _ _, hg1.below⟩
    case round =>
      clear hg1
      obtain ⟨x, acc, c, ad, hk, rfl, hx, hkx, hT, rfl, hown, hb⟩ := hrel
      have hbs := hb.size
      have HT : Hid (T = Pk.takeList s.data.toList (n - acc.length) x acc) := hT
      clear hT
      by_cases hlt : acc.length < n
      · obtain ⟨m, hm⟩ : ∃ m, n - acc.length = m + 1 := ⟨n - acc.length - 1, by omega⟩
        have HM : Hid (n - acc.length = m + 1) := hm
        have hT2 := HT.out
        rw [hm, Pk.takeList] at hT2
        have hsp2 := Pk.takeText_spec s.data.toList x
        rw [HZ.out] at hsp2
        have HX := fun w => refTakeText_any s x w (by omega)
        generalize Pk.takeText s.data.toList (x : Int) = U at *
        obtain ⟨tx, y, e⟩ := U
        simp only at *
        have HX' : Hid (∀ w : World, Calls Try.prog 24 #[.string s, .int .i64 x] w fun e' w' => e' = .returned (.tuple #[.string ⟨tx.toArray⟩, .int .i64 y, .int .i64 e]) ∧ Gr w w') := HX
        clear HX hm
        by_cases he : e = 0
        · subst he
          rw [if_neg (by simp)] at hT2
          have HT2 : Hid (T = Pk.takeList s.data.toList m y (acc ++ [tx])) := hT2
          have hy : x < y ∧ y ≤ s.size := by omega
          clear hT2 hsp2
          go_wp2_with fail
          refine (HX'.out _).mono ?_
          rintro e w2 ⟨rfl, hg2⟩
          have hown2 := hown.kept hg2.grownBy (by cases ad with | none => exact Or.inl rfl | some a => exact Or.inr (by simp [Value.ownBlock]))
          have hbl2 : Below w.heap.size w w2 := hb.trans (hg2.below.mono hbs)
          have hs2 := hg2.size
          have hm1 : acc.length + 1 ≤ maxLen := by unfold maxLen; omega
          clear hg2 hown
          go_wp2_with (first
            | (at_builtin; refine wpList_append_own _ rfl _ _ 27 rfl w.heap.size 9 i0 (.string ⟨#[]⟩) 1 16 Try.underlying27 hi hz0 hz1 hz2 rfl (by decide) _ _ _ rfl (hown2.alloc _) ⟨w2.heap.size, 0, none⟩ 1 1 [.string ⟨tx.toArray⟩] rfl rfl (cell_one_new _ _ _) (by intro u hu; simp at hu; subst hu; rfl) hm1 (by omega) (by simp; omega) ?_)
            | fail)
          intro v' w3 hown' hgrow _
          go_wp2
          go_roundw
          case rel =>
            have hbl3 : Below w.heap.size w (w2.alloc (.cells #[.string ⟨tx.toArray⟩] 9)) := hbl2.alloc (by omega) _
            have hown3 : w3.ownsRow w.heap.size 9 1 v' (acc ++ [tx]).length (strV (acc ++ [tx])) := by
              rw [strV_snoc, List.length_append]; exact hown'
            obtain ⟨ad', c', hv', _⟩ := own_strs hown3
            refine ⟨y, acc ++ [tx], c', ad', by simp; omega, rfl, by omega, by simp; omega, ?_, hv', hown3, ?_⟩
            · rw [HT2.out, List.length_append, show n - (acc.length + [tx].length) = m from by have := HM.out; simp; omega]
            · exact hbl3.grown hgrow (by simp; omega) (fun k hk => (hown2.lt k hk).1)
          case measure => simp [intOf]; omega
        · rw [if_pos (by simpa using he)] at hT2
          have HT2 : Hid (T = ([], 0, e)) := hT2
          have hen : ((e : Int) != 0) = true := by simp; omega
          clear hT2 hsp2
          go_wp2_with fail
          refine (HX'.out _).mono ?_
          rintro e' w2 ⟨rfl, hg2⟩
          go_wp2
          go_ret3
          rw [HT2.out]
          exact ⟨none, 0, by simp, fun j hj => absurd hj (by simp), ⟨hb.trans (hg2.below.mono hbs)⟩⟩
      · have hkn : acc.length = n := by omega
        have HT2 : Hid (T = (acc, x, 0)) := by
          show _ = _
          rw [HT.out, hkn, Nat.sub_self, Pk.takeList]
        obtain ⟨ad', cap, hv, hst⟩ := own_strs hown
        simp only [Value.slice.injEq, true_and] at hv
        obtain ⟨rfl, rfl⟩ := hv
        have HST : Hid (StrsAt wr ad (acc.map mkT)) := hst
        clear hst hown hkn
        go_wp2
        go_ret3
        rw [HT2.out]
        exact ⟨ad, c, by simp, HST.out, ⟨hb⟩⟩
  all_goals
    simp only [Prod.mk.injEq] at h
    obtain ⟨rfl, rfl, rfl⟩ := h
    rw [if_pos (by simp)] at hdef
    subst hdef
    go_enter Try.func26, Try.ntmps26
    go_wp2_with fail
    refine (HC.out _).mono ?_
    rintro e w1 ⟨rfl, hg1⟩
    go_wp2
    go_ret3
    exact ⟨none, 0, by simp, fun j hj => absurd hj (by simp), (by repeat (first | exact Gr.refl _ | refine Gr.alloc ?_ | refine Gr.drew ?_ | refine Gr.trans ?_ (by assumption)))⟩

set_option maxHeartbeats 1000000 in
set_option maxRecDepth 100000 in
theorem same_any (L : List ByteArray) (a1 a2 : Option Addr) (c1 c2 : Nat) (w : World) (hn : L.length ≤ 9223372036854775807) (h1 : StrsAt w a1 L) (h2 : StrsAt w a2 L) :
    Calls Try.prog 27 #[.slice a1 L.length c1, .slice a2 L.length c2] w fun e w' => e = .returned (.bool true) ∧ Gr w w' := by
  have H1 : Hid (StrsAt w a1 L) := h1
  have H2 : Hid (StrsAt w a2 L) := h2
  clear h1 h2
  go_enter Try.func27, Try.ntmps27
  go_wp2
  go_loopw [5] (fun i wr => ∃ k : Nat, k ≤ L.length ∧ i = .int .i64 k ∧ Gr w wr) (fun i _ => L.length - (intOf i).toNat)
  case atStart => exact ⟨0, by omega, rfl, Gr.refl _⟩
  case round =>
    obtain ⟨k, hk, rfl, hg⟩ := hrel
    by_cases hlt : k < L.length
    · obtain ⟨b, off, rfl, hbl, hc⟩ := H1.out k hlt
      obtain ⟨b2, off2, rfl, hbl2, hc2⟩ := H2.out k hlt
      have hc' : wr.cell? ⟨b, off + k, none⟩ = some (.string L[k]) := hg.keep hc
      have hc2' : wr.cell? ⟨b2, off2 + k, none⟩ = some (.string L[k]) := hg.keep hc2
      have hb1 : (0 : Int) ≤ (k : Int) := by omega
      have hb2 : (k : Int) < (L.length : Int) := by omega
      clear hc hc2
      go_wp2_with fail
      go_quiet (fail)
      go_wp2
      go_roundw
      case rel => exact ⟨k + 1, by omega, by go_num, hg.trans ⟨below_drewN (Below.refl _ _) _⟩⟩
      case measure => simp [intOf]; omega
    · go_wp2
      go_ret
      exact ⟨rfl, hg⟩
end Go.Proofs.Ytnkbnjkdlnafpaa
