/- cash: Show, and what Parse reads. -/
import Derived.Test.YtmidlcipbpchgabDoorCashF
import Derived.Test.YtmidlcipbpchgabDoorCashP
import Derived.Deep.RegionHeld3
namespace Go.Proofs.YtmidlcipbpchgabDoor
open Go.RowKit

theorem conv2 (w : World) (b : Nat) (x y : UInt8) (hx : w.cell? ⟨b, 0, none⟩ = some (.int .u8 (x.toNat : Int))) (hy : w.cell? ⟨b, 1, none⟩ = some (.int .u8 (y.toNat : Int))) :
    (convert 85 9 (.slice (some ⟨b, 0, none⟩) 2 2)).run Tryd.prog w = .ok (.string ⟨#[x, y]⟩) w := by
  have := run_convert_bytes_back (P := Tryd.prog) w 85 9 5 ⟨b, 0, none⟩ 2 [x, y] Tryd.underlying85 Tryd.underlying5 Tryd.underlying9 (by
    intro j hj
    match j, hj with
    | 0, _ => simpa [Addr.add] using hx
    | 1, _ => simpa [Addr.add] using hy)
  simpa using this
theorem byte_dig (n : Nat) : IntKind.u8.wrap (48 + IntKind.u8.wrap (((n % 10 : Nat)) : Int)) = ((Csh.dig n).toNat : Int) := by
  rw [Csh.dig_toNat, IntKind.wrap_u8, IntKind.wrap_u8]; omega

set_option maxHeartbeats 4000000 in
set_option maxRecDepth 100000 in
theorem showUnsigned_any (u : Nat) (w : World) (hu : u < 18446744073709551616) (he : Env w) :
    Calls Tryd.prog 47 #[.int .u64 u] w fun e w' => e = .returned (.string ⟨(Csh.showN u).toArray⟩) ∧ Gr w w' := by
  have HF : Hid (∀ w', Gr w w' → Calls Tryd.prog 56 #[.int .u64 ((u / 100 : Nat) : Int), .int .i64 10] w' fun e w2 => e = .returned (.string ⟨(Lib.decDigits (u / 100)).toArray⟩) ∧ Gr w' w2) := fun w' g => formatUint_any (u / 100) w' (by omega) (he.gr g)
  have hmk : ∀ w : World, (Instr.makeSlice 85 (.int .i64 2) (.int .i64 2)).run Tryd.prog w = .ok (.slice (some ⟨w.heap.size, 0, none⟩) 2 2) (w.alloc (.cells #[.int .u8 0, .int .u8 0] 5)) := fun _ => by kernel_rfl
  clear he
  go_enter Tryd.func47, Tryd.ntmps47
  go_wp2
  clear hmk
  go_loopw [0, 6] (fun n i wr => (i = .int .i64 0 ∧ n = .int .u64 u ∧ wr = w.alloc (.cells #[.int .u8 0, .int .u8 0] 5)) ∨ (i = .int .i64 1 ∧ n = .int .u64 ((u / 10 : Nat) : Int) ∧ wr = w.alloc (.cells #[.int .u8 0, .int .u8 ((Csh.dig u).toNat : Int)] 5)) ∨ (i = .int .i64 2 ∧ n = .int .u64 ((u / 100 : Nat) : Int) ∧ wr = w.alloc (.cells #[.int .u8 ((Csh.dig (u / 10)).toNat : Int), .int .u8 ((Csh.dig u).toNat : Int)] 5))) (fun _ i _ => 2 - (intOf i).toNat)
  case atStart => exact Or.inl ⟨rfl, rfl, rfl⟩
  case round =>
    have HD0 : Hid (((Csh.dig u).toNat : Int) = 48 + (u : Int) % 10) := by show _ = _; rw [Csh.dig_toNat]; omega
    have HD1 : Hid (((Csh.dig (u / 10)).toNat : Int) = 48 + ((u / 10 : Nat) : Int) % 10) := by show _ = _; rw [Csh.dig_toNat]; omega
    have hd0 : (Csh.dig u).toNat < 256 := (Csh.dig u).toNat_lt
    rcases hrel with ⟨rfl, rfl, rfl⟩ | ⟨rfl, rfl, rfl⟩ | ⟨rfl, rfl, rfl⟩
    · go_wp2
      go_roundw
      case rel => exact Or.inr (Or.inl ⟨rfl, by go_num, by rw [HD0.out]⟩)
      case measure => simp [intOf]
    · obtain ⟨v, ev⟩ : ∃ v, u / 10 = v := ⟨_, rfl⟩
      have EV : Hid (u / 10 = v) := ev
      rw [ev] at HD1 ⊢
      have hv : v < 18446744073709551616 := by omega
      clear ev
      generalize ((Csh.dig u).toNat : Int) = c0 at *
      go_wp2
      go_roundw
      case rel => exact Or.inr (Or.inr ⟨rfl, by rw [← EV.out]; congr 1; omega, by rw [HD1.out]⟩)
      case measure => simp [intOf]
    · have hlen := Csh.dec_len (u / 100) 19 (by omega)
      have ha1 := add_lists (Lib.decDigits (u / 100)) [46] (by simp; omega)
      have ha2 := add_lists (Lib.decDigits (u / 100) ++ [46]) [Csh.dig (u / 10), Csh.dig u] (by simp; omega)
      have HT : Hid (Csh.showN u = Lib.decDigits (u / 100) ++ [46] ++ [Csh.dig (u / 10), Csh.dig u]) := by show _ = _; simp [Csh.showN]
      have hcv : ∀ w' : World, w'.cell? ⟨w.heap.size, 0, none⟩ = some (.int .u8 ((Csh.dig (u / 10)).toNat : Int)) → w'.cell? ⟨w.heap.size, 1, none⟩ = some (.int .u8 ((Csh.dig u).toNat : Int)) → (convert 85 9 (.slice (some ⟨w.heap.size, 0, none⟩) 2 2)).run Tryd.prog w' = .ok (.string ⟨#[Csh.dig (u / 10), Csh.dig u]⟩) w' := fun w' h0 h1 => conv2 w' _ _ _ h0 h1
      generalize Lib.decDigits (u / 100) ++ [46] ++ [Csh.dig (u / 10), Csh.dig u] = t2 at ha2 HT
      generalize Lib.decDigits (u / 100) ++ [46] = t1 at ha1 ha2
      generalize Lib.decDigits (u / 100) = t0 at ha1 HF
      generalize Csh.dig (u / 10) = x at *
      generalize Csh.dig u = y at *
      clear HD0 HD1 hlen hd0
      go_wp2
      go_region_held3 (fun w' => Gr w w' ∧ Gr (w.alloc (.cells #[.int .u8 (x.toNat : Int), .int .u8 (y.toNat : Int)] 5)) w' ∧ w'.cell? ⟨w.heap.size, 0, none⟩ = some (.int .u8 (x.toNat : Int)) ∧ w'.cell? ⟨w.heap.size, 1, none⟩ = some (.int .u8 (y.toNat : Int)))
        ((go_split_ands; exact ⟨(by repeat (first | exact Gr.refl _ | refine Gr.alloc ?_ | refine Gr.drew ?_ | refine Gr.trans ?_ (by assumption))), (by repeat (first | exact Gr.refl _ | refine Gr.alloc ?_ | refine Gr.drew ?_ | refine Gr.trans ?_ (by assumption))), Gr.keep (W := w.alloc (.cells #[.int .u8 (x.toNat : Int), .int .u8 (y.toNat : Int)] 5)) (by repeat (first | exact Gr.refl _ | refine Gr.alloc ?_ | refine Gr.drew ?_ | refine Gr.trans ?_ (by assumption))) (by simp), Gr.keep (W := w.alloc (.cells #[.int .u8 (x.toNat : Int), .int .u8 (y.toNat : Int)] 5)) (by repeat (first | exact Gr.refl _ | refine Gr.alloc ?_ | refine Gr.drew ?_ | refine Gr.trans ?_ (by assumption))) (by simp)⟩))
        ((go_at_call 56; refine (HF.out _ ?_).mono ?_; (go_split_ands; exact (by repeat (first | exact Gr.refl _ | refine Gr.alloc ?_ | refine Gr.drew ?_ | refine Gr.trans ?_ (by assumption)))); rintro e w2 ⟨rfl, hg2⟩))
      all_goals go_wp2
      all_goals go_ret
      all_goals exact ⟨by rw [HT.out]; rfl, (by repeat (first | exact Gr.refl _ | refine Gr.alloc ?_ | refine Gr.drew ?_ | refine Gr.trans ?_ (by assumption)))⟩

set_option maxHeartbeats 1000000 in
theorem show_any (a : Int) (w : World) (h0 : -9223372036854775808 ≤ a) (h1 : a ≤ 9223372036854775807) (he : Env w) :
    Calls Tryd.prog 28 #[.int .i64 a] w fun e w' => e = .returned (.string ⟨(Csh.showE a).toArray⟩) ∧ Gr w w' := by
  have HS : Hid (Calls Tryd.prog 47 #[.int .u64 ((a.natAbs : Nat) : Int)] w fun e w' => e = .returned (.string ⟨(Csh.showN a.natAbs).toArray⟩) ∧ Gr w w') := showUnsigned_any a.natAbs w (by omega) he
  have hl := Csh.showN_len a.natAbs (by omega)
  by_cases h : a < 0
  · have HE : Hid (Csh.showE a = 45 :: Csh.showN a.natAbs) := by show _ = _; unfold Csh.showE; rw [if_pos h]
    have ha := add_lists [45] (Csh.showN a.natAbs) (by simp; omega)
    have hw1 : IntKind.u64.wrap a = a + 18446744073709551616 := by rw [IntKind.wrap_u64]; omega
    have hw2 : IntKind.u64.wrap (-(a + 18446744073709551616)) = ((a.natAbs : Nat) : Int) := by rw [IntKind.wrap_u64]; omega
    generalize Csh.showN a.natAbs = t at *
    generalize ((a.natAbs : Nat) : Int) = v at *
    clear hl he
    go_enter Tryd.func28, Tryd.ntmps28
    go_wp2_with fail
    refine HS.out.mono ?_
    rintro e w1 ⟨rfl, hg1⟩
    go_wp2
    go_ret
    exact ⟨by rw [HE.out]; rfl, hg1⟩
  · have HE : Hid (Csh.showE a = Csh.showN a.natAbs) := by show _ = _; unfold Csh.showE; rw [if_neg h]
    have hw1 : IntKind.u64.wrap a = ((a.natAbs : Nat) : Int) := by rw [IntKind.wrap_u64]; omega
    generalize Csh.showN a.natAbs = t at *
    generalize ((a.natAbs : Nat) : Int) = v at *
    clear hl he
    go_enter Tryd.func28, Tryd.ntmps28
    go_wp2_with fail
    refine HS.out.mono ?_
    rintro e w1 ⟨rfl, hg1⟩
    go_wp2
    go_ret
    exact ⟨by rw [HE.out]; rfl, hg1⟩

set_option maxHeartbeats 1000000 in
set_option maxRecDepth 100000 in
theorem read_any (s : ByteArray) (w : World) (hs : s.size ≤ 9223372036854775807) :
    Calls Tryd.prog 46 #[.string s] w fun e w' => e = .returned (.int .i64 (Csh.readE s.data.toList)) ∧ w' = w := by
  have hl : s.data.toList.length = s.size := by simp
  go_enter Tryd.func46, Tryd.ntmps46
  go_wp2
  go_loop [3, 8] (fun n i => ∃ k : Nat, k ≤ s.size ∧ i = .int .i64 k ∧ n = .int .u64 ((Csh.readU (s.data.toList.take k) : Nat) : Int)) (fun _ i => s.size - (intOf i).toNat)
  case atStart => exact ⟨0, by omega, rfl, rfl⟩
  case round =>
    obtain ⟨k, hk, rfl, rfl⟩ := hrel
    by_cases hlt : k < s.size
    · have h8 : (s[k]'hlt).toNat < 256 := (s[k]'hlt).toNat_lt
      have hm := Csh.readU_more s.data.toList k (by rw [hl]; exact hlt)
      have HM : Hid (Csh.readU (s.data.toList.take (k + 1)) = Csh.stepU (Csh.readU (s.data.toList.take k)) (s[k]'hlt)) := hm
      have hw1 : IntKind.u8.wrap (((s[k]'hlt).toNat : Int) - 48) = ((((s[k]'hlt).toNat + 208) % 256 : Nat) : Int) := by rw [IntKind.wrap_u8]; omega
      clear hm
      by_cases h9 : ((s[k]'hlt).toNat + 208) % 256 ≤ 9
      · have h9' : (((((s[k]'hlt).toNat + 208) % 256 : Nat) : Int)) ≤ 9 := by omega
        have HW : Hid (IntKind.u64.wrap (IntKind.u64.wrap ((Csh.readU (s.data.toList.take k) : Nat) * 10) + ((((s[k]'hlt).toNat + 208) % 256 : Nat) : Int)) = ((Csh.stepU (Csh.readU (s.data.toList.take k)) (s[k]'hlt) : Nat) : Int)) := by
          show _ = _
          unfold Csh.stepU
          rw [if_pos h9, IntKind.wrap_u64, IntKind.wrap_u64]; omega
        generalize ((s[k]'hlt).toNat + 208) % 256 = d at *
        generalize Csh.readU (s.data.toList.take k) = v at *
        go_wp2
        go_round
        case rel => exact ⟨k + 1, by omega, by go_num, by rw [HM.out, ← HW.out]⟩
        case measure => simp [intOf]; omega
      · have h9' : ¬ ((((((s[k]'hlt).toNat + 208) % 256 : Nat) : Int)) ≤ 9) := by omega
        have HW : Hid (Csh.stepU (Csh.readU (s.data.toList.take k)) (s[k]'hlt) = Csh.readU (s.data.toList.take k)) := by
          show _ = _
          unfold Csh.stepU
          rw [if_neg h9]
        generalize ((s[k]'hlt).toNat + 208) % 256 = d at *
        obtain ⟨v, ev⟩ : ∃ v, Csh.readU (s.data.toList.take k) = v := ⟨_, rfl⟩
        rw [ev] at HM HW ⊢
        clear ev
        go_wp2
        go_round
        case rel => exact ⟨k + 1, by omega, by go_num, by rw [HM.out, HW.out]⟩
        case measure => simp [intOf]; omega
    · have hkl : s.data.toList.take k = s.data.toList := List.take_of_length_le (by omega)
      rw [hkl]
      clear hkl
      have hu := Csh.readU_lt s.data.toList
      have hv : Csh.readE s.data.toList = Csh.sgn (if s.data.toList.head? = some 45 then (18446744073709551616 - (Csh.readU s.data.toList : Int)) % 18446744073709551616 else Csh.readU s.data.toList) := rfl
      have HV : Hid (Csh.readE s.data.toList = Csh.sgn (if s.data.toList.head? = some 45 then (18446744073709551616 - (Csh.readU s.data.toList : Int)) % 18446744073709551616 else Csh.readU s.data.toList)) := hv
      clear hv
      by_cases hz : 0 < s.size
      · have hd : s.data.toList.head? = some (s[0]'hz) := by
          rw [List.head?_eq_getElem?, List.getElem?_eq_getElem (by rw [hl]; exact hz)]; rfl
        rw [hd] at HV
        have hz' : (0 : Int) < (s.size : Int) := by omega
        by_cases h45 : s[0]'hz = 45
        · have h45' : (((s[0]'hz).toNat : Int) == 45) = true := by rw [h45]; rfl
          have HR : Hid (Csh.readE s.data.toList = wrap64 (IntKind.u64.wrap (-((Csh.readU s.data.toList : Nat) : Int)))) := by
            show _ = _
            rw [HV.out, wrap_sgn, IntKind.wrap_u64, h45, if_pos rfl]
            congr 1; omega
          clear HV
          generalize Csh.readU s.data.toList = v at *
          clear h45 hd
          go_wp2
          go_ret
          exact ⟨by rw [HR.out]; rfl, rfl⟩
        · have h45' : (((s[0]'hz).toNat : Int) == 45) = false := by
            rw [beq_eq_false_iff_ne]
            intro e
            apply h45
            apply UInt8.toNat_inj.1
            have : (s[0]'hz).toNat = 45 := by omega
            rw [this]; rfl
          have HR : Hid (Csh.readE s.data.toList = wrap64 ((Csh.readU s.data.toList : Nat) : Int)) := by
            show _ = _
            rw [HV.out, wrap_sgn, if_neg (fun e => h45 (Option.some.inj e))]
          clear HV
          generalize Csh.readU s.data.toList = v at *
          clear h45 hd
          go_wp2
          go_ret
          exact ⟨by rw [HR.out]; rfl, rfl⟩
      · have hz' : ¬ ((0 : Int) < (s.size : Int)) := by omega
        have hd : s.data.toList.head? = none := by
          rw [List.head?_eq_getElem?, List.getElem?_eq_none (by omega)]
        have HR : Hid (Csh.readE s.data.toList = wrap64 ((Csh.readU s.data.toList : Nat) : Int)) := by
          show _ = _
          rw [HV.out, wrap_sgn, hd, if_neg (by simp)]
        clear HV hd
        generalize Csh.readU s.data.toList = v at *
        go_wp2
        go_ret
        exact ⟨by rw [HR.out]; rfl, rfl⟩

theorem toList_data (s : ByteArray) : s.toList = s.data.toList := by
  have := ByteArray.toList_eq s
  simpa using this

set_option maxHeartbeats 1000000 in
theorem parse_any (s : ByteArray) (w : World) (hs : s.size ≤ 9223372036854775807) (he : Env w) :
    Calls Tryd.prog 26 #[.string s] w fun e w' => e = .returned (.tuple #[.int .i64 (if Csh.parE s.data.toList = true then Csh.readE s.data.toList else 0), .int .i64 (if Csh.parE s.data.toList = true then 0 else 40)]) ∧ Gr w w' := by
  have HR : Hid (Calls Tryd.prog 46 #[.string s] w fun e w' => e = .returned (.int .i64 (Csh.readE s.data.toList)) ∧ w' = w) := read_any s w hs
  have hr := Csh.readE_rng s.data.toList
  have HS : Hid (Calls Tryd.prog 28 #[.int .i64 (Csh.readE s.data.toList)] w fun e w' => e = .returned (.string ⟨(Csh.showE (Csh.readE s.data.toList)).toArray⟩) ∧ Gr w w') := show_any _ w hr.1 hr.2 he
  have hb : (Csh.showE (Csh.readE s.data.toList) == s.toList) = Csh.parE s.data.toList := by
    rw [toList_data]
    unfold Csh.parE
    by_cases h : Csh.showE (Csh.readE s.data.toList) = s.data.toList
    · rw [decide_eq_true h]; exact beq_iff_eq.2 h
    · rw [decide_eq_false h]; exact beq_eq_false_iff_ne.2 h
  generalize Csh.showE (Csh.readE s.data.toList) = t at *
  generalize Csh.readE s.data.toList = a at *
  clear he hr
  cases hp : Csh.parE s.data.toList with
  | true =>
    rw [hp] at hb
    clear hp
    simp only [if_true]
    go_enter Tryd.func26, Tryd.ntmps26
    go_wp2_with fail
    refine HR.out.mono ?_
    rintro e w1 ⟨rfl, hw1⟩; obtain rfl := hw1.symm
    go_wp2_with fail
    refine HS.out.mono ?_
    rintro e w2 ⟨rfl, hg2⟩
    go_wp2
    go_ret2
    exact ⟨rfl, hg2⟩
  | false =>
    rw [hp] at hb
    clear hp
    simp only [if_neg Bool.false_ne_true]
    go_enter Tryd.func26, Tryd.ntmps26
    go_wp2_with fail
    refine HR.out.mono ?_
    rintro e w1 ⟨rfl, hw1⟩; obtain rfl := hw1.symm
    go_wp2_with fail
    refine HS.out.mono ?_
    rintro e w2 ⟨rfl, hg2⟩
    go_wp2
    go_ret2
    exact ⟨rfl, hg2⟩
end Go.Proofs.YtmidlcipbpchgabDoor
