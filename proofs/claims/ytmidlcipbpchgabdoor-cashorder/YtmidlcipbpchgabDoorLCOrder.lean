/- For every input the law CashOrder answers true: the order of parts is of no matter to a sum, nor how it is parted, where the parts have sums. -/
import Derived.Test.YtmidlcipbpchgabDoorLaidC
import Derived.Test.YtmidlcipbpchgabDoorCashK
import Derived.Test.YtmidlcipbpchgabDoorCashO
import Derived.SevenTiedAt
namespace Go.Proofs.YtmidlcipbpchgabDoor
open Go.ChangeShapes Go.WideShapes Go.ChangeAt Go.RowKit
open Go.ChangeMaps (open_string shut_string)

theorem errE_or (s : Int) : (Csh.okB s = true ∧ Csh.errE s = 0 ∧ Csh.valE s = s) ∨ (Csh.okB s = false ∧ Csh.errE s = 40) := by
  unfold Csh.errE Csh.valE
  cases h : Csh.okB s <;> simp
theorem take_rev (l : List Int) (k : Nat) (h : k < l.length) : l.reverse.take (k + 1) = l.reverse.take k ++ [l[l.length - 1 - k]] := by
  rw [List.take_succ_eq_append_getElem (by simpa using h), List.getElem_reverse]

set_option maxHeartbeats 16000000 in
set_option maxRecDepth 100000 in
theorem cashOrder_walk (l : List Int) (ad : Option Addr) (cap : Nat) (c : Int) (w : World) (he : Env w) (hL : IntsAt w ad l) (hn : l.length ≤ 9223372036854775807) (hcp : l.length ≤ cap) (hr : ∀ a ∈ l, -9223372036854775808 ≤ a ∧ a ≤ 9223372036854775807) :
    Calls Tryd.prog 7 #[.slice ad l.length cap, .int .i64 c] w fun e w' => e = .returned (.bool true) ∧ Gr w w' := by
  have HA : Hid (∀ w', Gr w w' → Calls Tryd.prog 19 #[] w' fun e w2 => e = .returned (.bool true) ∧ Gr w' w2) := fun w' g => awake_any w' (he.gr g)
  by_cases h5 : (5000 : Int) < (l.length : Int)
  · clear he hL hr
    go_enter Tryd.func7, Tryd.ntmps7
    go_wp2_with fail
    refine (HA.out _ (by repeat (first | exact Gr.refl _ | refine Gr.alloc ?_ | refine Gr.drew ?_ | refine Gr.trans ?_ (by assumption)))).mono ?_
    rintro e w1 ⟨rfl, hg1⟩
    go_wp2
    go_ret
    exact ⟨rfl, hg1⟩
  by_cases h6 : c < 0
  · clear he hL hr
    go_enter Tryd.func7, Tryd.ntmps7
    go_wp2_with fail
    refine (HA.out _ (by repeat (first | exact Gr.refl _ | refine Gr.alloc ?_ | refine Gr.drew ?_ | refine Gr.trans ?_ (by assumption)))).mono ?_
    rintro e w1 ⟨rfl, hg1⟩
    go_wp2
    go_ret
    exact ⟨rfl, hg1⟩
  by_cases h7 : (l.length : Int) < c
  · clear he hL hr
    go_enter Tryd.func7, Tryd.ntmps7
    go_wp2_with fail
    refine (HA.out _ (by repeat (first | exact Gr.refl _ | refine Gr.alloc ?_ | refine Gr.drew ?_ | refine Gr.trans ?_ (by assumption)))).mono ?_
    rintro e w1 ⟨rfl, hg1⟩
    go_wp2
    go_ret
    exact ⟨rfl, hg1⟩
  obtain ⟨k0, rfl⟩ : ∃ k0 : Nat, c = k0 := ⟨c.toNat, by omega⟩
  have hk0 : k0 ≤ l.length := by omega
  have hS : ∀ (m : List Int), m.length ≤ 10000 → (∀ a ∈ m, -9223372036854775808 ≤ a ∧ a ≤ 9223372036854775807) → ∀ (w' : World) (ad : Option Addr) (cap : Nat), IntsAt w' ad m → Calls Tryd.prog 20 #[.slice ad m.length cap] w' fun e w2 => e = .returned (.tuple #[.int .i64 (Csh.valE (Csh.sumE m)), .int .i64 (Csh.errE (Csh.sumE m))]) ∧ w2 = w' := fun m h1 h2 w' ad cap h3 => sum_any m ad cap w' h3 (by omega) h2
  have HS1 : Hid (∀ w', Gr w w' → Calls Tryd.prog 20 #[.slice ad l.length cap] w' fun e w2 => e = .returned (.tuple #[.int .i64 (Csh.valE (Csh.sumE l)), .int .i64 (Csh.errE (Csh.sumE l))]) ∧ w2 = w') := fun w' g => hS l (by omega) hr w' ad cap (hL.gr g)
  have HS2 : Hid (∀ (w' : World) (ad : Option Addr) (cap : Nat), IntsAt w' ad l.reverse → Calls Tryd.prog 20 #[.slice ad l.length cap] w' fun e w2 => e = .returned (.tuple #[.int .i64 (Csh.valE (Csh.sumE l)), .int .i64 (Csh.errE (Csh.sumE l))]) ∧ w2 = w') := by
    intro w' ad cap h
    have := hS l.reverse (by simp; omega) (fun a ha => hr a (List.mem_reverse.1 ha)) w' ad cap h
    rw [Csh.sum_reverse, List.length_reverse] at this
    exact this
  have HS3 : Hid (∀ w', Gr w w' → Calls Tryd.prog 20 #[.slice ad k0 cap] w' fun e w2 => e = .returned (.tuple #[.int .i64 (Csh.valE (Csh.sumE (l.take k0))), .int .i64 (Csh.errE (Csh.sumE (l.take k0)))]) ∧ w2 = w') := by
    intro w' g
    have := hS (l.take k0) (by rw [List.length_take]; omega) (fun a ha => hr a (List.mem_of_mem_take ha)) w' ad cap ((hL.gr g).take k0)
    rw [List.length_take, Nat.min_eq_left hk0] at this
    exact this
  have HS4 : Hid (∀ w', Gr w w' → Calls Tryd.prog 20 #[.slice (highAd ad cap k0) (l.length - k0) (cap - k0)] w' fun e w2 => e = .returned (.tuple #[.int .i64 (Csh.valE (Csh.sumE (l.drop k0))), .int .i64 (Csh.errE (Csh.sumE (l.drop k0)))]) ∧ w2 = w') := by
    intro w' g
    have := hS (l.drop k0) (by rw [List.length_drop]; omega) (fun a ha => hr a (List.mem_of_mem_drop ha)) w' (highAd ad cap k0) (cap - k0) ((hL.gr g).high cap k0 hcp)
    rw [List.length_drop] at this
    exact this
  have hsl := slice_low ad l.length cap k0 hk0 hcp
  have hsh := slice_high ad l.length cap k0 hk0
  have hsum : Csh.sumE l = Csh.sumE (l.take k0) + Csh.sumE (l.drop k0) := by rw [← Csh.sum_append, List.take_append_drop]
  have HS5 : Hid (Csh.okB (Csh.sumE (l.take k0)) = true → Csh.okB (Csh.sumE (l.drop k0)) = true → ∀ (w' : World) (g : Nat), IntsAt w' (some ⟨g, 0, none⟩) [Csh.sumE (l.take k0), Csh.sumE (l.drop k0)] → Calls Tryd.prog 20 #[.slice (some ⟨g, 0, none⟩) 2 2] w' fun e w2 => e = .returned (.tuple #[.int .i64 (Csh.valE (Csh.sumE l)), .int .i64 (Csh.errE (Csh.sumE l))]) ∧ w2 = w') := by
    intro k1 k2 w' g h
    simp only [Csh.okB, Bool.and_eq_true, decide_eq_true_eq] at k1 k2
    have := hS [Csh.sumE (l.take k0), Csh.sumE (l.drop k0)] (by simp) (by intro a ha; simp at ha; rcases ha with rfl | rfl <;> assumption) w' _ 2 h
    rw [show Csh.sumE [Csh.sumE (l.take k0), Csh.sumE (l.drop k0)] = Csh.sumE l by rw [hsum]; simp [Csh.sumE]] at this
    exact this
  have hx := errE_or (Csh.sumE (l.take k0))
  have hy := errE_or (Csh.sumE (l.drop k0))
  have HX : Hid ((Csh.okB (Csh.sumE (l.take k0)) = true ∧ Csh.errE (Csh.sumE (l.take k0)) = 0 ∧ Csh.valE (Csh.sumE (l.take k0)) = Csh.sumE (l.take k0)) ∨ (Csh.okB (Csh.sumE (l.take k0)) = false ∧ Csh.errE (Csh.sumE (l.take k0)) = 40)) := hx
  have HY : Hid ((Csh.okB (Csh.sumE (l.drop k0)) = true ∧ Csh.errE (Csh.sumE (l.drop k0)) = 0 ∧ Csh.valE (Csh.sumE (l.drop k0)) = Csh.sumE (l.drop k0)) ∨ (Csh.okB (Csh.sumE (l.drop k0)) = false ∧ Csh.errE (Csh.sumE (l.drop k0)) = 40)) := hy
  clear hx hy hsum hS he hr
  generalize Csh.valE (Csh.sumE l) = x at *
  generalize Csh.errE (Csh.sumE l) = y at *
  generalize Csh.valE (Csh.sumE (l.take k0)) = v1 at *
  generalize Csh.errE (Csh.sumE (l.take k0)) = y1 at *
  generalize Csh.valE (Csh.sumE (l.drop k0)) = v2 at *
  generalize Csh.errE (Csh.sumE (l.drop k0)) = y2 at *
  generalize Csh.okB (Csh.sumE (l.take k0)) = o1 at *
  generalize Csh.okB (Csh.sumE (l.drop k0)) = o2 at *
  generalize Csh.sumE (l.take k0) = s1 at *
  generalize Csh.sumE (l.drop k0) = s2 at *
  have e1 : (x == x) = true := by simp
  have e2 : (y == y) = true := by simp
  have e3 : (x != x) = false := by simp
  have e4 : (y != y) = false := by simp
  have HL : Hid (IntsAt w ad l) := hL
  obtain ⟨i0, hi, hz0, hz1, hz2⟩ := info_parts infoI64
  clear hL
  go_enter Tryd.func7, Tryd.ntmps7
  go_wp2
  go_loopw [5, 6] (fun p i wr => ∃ k : Nat, k ≤ l.length ∧ i = .int .i64 ((l.length : Int) - 1 - k) ∧ wr.ownsRow w.heap.size 2 1 p k (intV (l.reverse.take k)) ∧ Below w.heap.size w wr)
    (fun _ i _ => (intOf i + 1).toNat)
  case atStart => exact ⟨0, by omega, by simp, ⟨rfl, Or.inl ⟨rfl, rfl⟩⟩, Below.refl _ _⟩
  case round =>
    obtain ⟨k, hk, rfl, hown, hb⟩ := hrel
    have hbs := hb.size
    by_cases hlt : k < l.length
    · obtain ⟨b, off, rfl, hbl, hc⟩ := HL.out (l.length - 1 - k) (by omega)
      have hc' := (hb.cell (p := ⟨b, off + (l.length - 1 - k), none⟩) hbl).trans hc
      have HP : Hid (intV (l.reverse.take (k + 1)) = intV (l.reverse.take k) ++ [.int .i64 l[l.length - 1 - k]]) := by
        show _ = _
        rw [take_rev l k hlt, intV_snoc]
      have hm1 : k + 1 ≤ maxLen := by unfold maxLen; omega
      have hi0 : (0 : Int) ≤ (l.length : Int) - 1 - k := by omega
      generalize l[l.length - 1 - k] = a at *
      clear hc
      obtain ⟨j, ej⟩ : ∃ j : Nat, l.length - 1 - k = j := ⟨_, rfl⟩
      have ej' : (l.length : Int) - 1 - k = j := by omega
      rw [ej] at hc'
      have hj : (j : Int) < (l.length : Int) := by omega
      have HJ : Hid ((l.length : Int) - 1 - k = j) := ej'
      rw [ej'] at hi0 ⊢
      clear ej ej'
      go_wp2_with (first
        | (at_builtin; refine wpList_append_own _ rfl _ _ 40 rfl w.heap.size 2 i0 (.int .i64 0) 1 8 Tryd.underlying40 hi hz0 hz1 hz2 rfl (by decide) _ _ _ rfl (hown.alloc _) ⟨wr.heap.size, 0, none⟩ 1 1 [.int .i64 a] rfl rfl (cell_one_at _ _ _ _ (by simp)) (by intro u hu; simp at hu; subst hu; rfl) hm1 (by omega) (by simp; omega) ?_)
        | fail)
      intro v' w1 hown' hgrow _
      go_wp2
      go_roundw
      case rel =>
        exact ⟨k + 1, by omega, by rw [← HJ.out]; go_num, by rw [HP.out]; exact hown', (hb.alloc hbs _).grown hgrow (by simp; omega) (fun k hk => (hown.lt k hk).1)⟩
      case measure => simp [intOf]
    · obtain rfl : k = l.length := by omega
      have key : ∀ {u : Value}, wr.ownsRow w.heap.size 2 1 u l.length (intV (l.reverse.take l.length)) → ∃ ad2 cap2, u = .slice ad2 l.length cap2 ∧ IntsAt wr ad2 l.reverse := by
        intro u h
        rw [List.take_of_length_le (by simp)] at h
        obtain ⟨ad2, cap2, e, _, h4⟩ := own_ints (l := l.reverse) (by rw [List.length_reverse]; exact h)
        rw [List.length_reverse] at e
        exact ⟨ad2, cap2, e, h4⟩
      obtain ⟨ad2, cap2, rfl, hia⟩ := key hown
      have HI : Hid (IntsAt wr ad2 l.reverse) := hia
      have HG : Hid (Gr w wr) := ⟨hb⟩
      have hneg : ¬ ((0 : Int) ≤ (l.length : Int) - 1 - l.length) := by omega
      clear hown key hia hb hbs
      go_wp2_with fail
      refine (HS1.out _ HG.out).mono ?_
      rintro e w2 ⟨rfl, hw2⟩; obtain rfl := hw2.symm
      go_wp2_with fail
      refine (HS2.out _ _ _ HI.out).mono ?_
      rintro e w2 ⟨rfl, hw2⟩; obtain rfl := hw2.symm
      go_wp2_with fail
      refine (HS3.out _ HG.out).mono ?_
      rintro e w2 ⟨rfl, hw2⟩; obtain rfl := hw2.symm
      go_wp2_with fail
      refine (HS4.out _ HG.out).mono ?_
      rintro e w2 ⟨rfl, hw2⟩; obtain rfl := hw2.symm
      rcases HX.out with ⟨rfl, rfl, rfl⟩ | ⟨rfl, rfl⟩
      · rcases HY.out with ⟨rfl, rfl, rfl⟩ | ⟨rfl, rfl⟩
        · go_wp2_with fail
          refine (HS5.out (by simp) (by simp) _ _ (ints_lit2 _ _ _ _ _ rfl)).mono ?_
          rintro e w3 ⟨rfl, hw3⟩
          have G3 : Hid (Gr w w3) := by rw [hw3]; exact HG.out.alloc
          clear hw3
          go_wp2_with fail
          refine (HA.out _ G3.out).mono ?_
          rintro e w4 ⟨rfl, hg4⟩
          go_wp2
          go_ret
          exact ⟨rfl, G3.out.trans hg4⟩
        · go_wp2_with fail
          refine (HA.out _ HG.out).mono ?_
          rintro e w4 ⟨rfl, hg4⟩
          go_wp2
          go_ret
          exact ⟨rfl, HG.out.trans hg4⟩
      · go_wp2_with fail
        refine (HA.out _ HG.out).mono ?_
        rintro e w4 ⟨rfl, hg4⟩
        go_wp2
        go_ret
        exact ⟨rfl, HG.out.trans hg4⟩

set_option maxRecDepth 100000 in
theorem cashOrder_lifted (os : Os) (started : os.Started) (H : Type) (enc : TypeId × Value → H) :
    ReturnsInHanded {} Tryd.checked os 7 .any (fun w args => (Rows.cashOrderSpec.pre enc Tryd.prog Tryd.f7 [] false w args ∧ laidMetH Tryd.prog laidL w) ∧ sizedMet enc Tryd.prog Tryd.f7 (OpenSpec.ofChange Rows.cashOrderSpec) false w args)
      (Rows.cashOrderSpec.post enc Tryd.prog Tryd.f7 false true false false) := by
  refine returnsInHanded_of_change_and (C := Tryd.checked) (X := fun w _ => laidMetH Tryd.prog laidL w) (fun _ _ _ hh h => h.of_heap hh) own2 started (by kernel_rfl) Tryd.func7
    (ChangeSpec.witness_shaped (enc := enc) (C := Tryd.checked) (os := os) (X := fun w _ => laidMetH Tryd.prog laidL w) false (World.doorLaid Tryd.prog 400 os) #[.slice none 0 0, .int .i64 0] 8 rfl (World.shaped_of_RefB (by kernel_rfl) (by kernel_rfl)) (by kernel_rfl) (by kernel_rfl) (by kernel_rfl) (door_met os _)) ?_
  intro W base args ds gs before hval0 hW _ hsz0 hL _
  have hval : ∀ (j : Nat) t v, Tryd.f7.params[j]? = some t → args[j]? = some v → Value.okWide Tryd.prog W .any base t v := hval0
  have hsz : (DataW.weightsEach Tryd.prog (Tryd.f7.params.toList ++ Rows.cashOrderSpec.plain.varTypes Tryd.prog) (ds ++ gs)).all (· ≤ reachBytes) = true := hsz0
  have hW' := hW
  obtain ⟨p, q, hA0, hV, rfl, hfz, hnd⟩ := hW
  have hA : DataW.TrodAll enc Tryd.prog W 0 (fun _ => true) true Tryd.f7.params.toList args.toList ds p := hA0
  rw [Tryd.params7] at hA hval hsz
  obtain ⟨v0, v1, d0, d1, p0, p1, rfl, rfl, rfl, h0, h1⟩ := trodAll_two hA
  obtain ⟨rfl, rfl⟩ := trodVars_none hV
  have k0 := h0
  have lt0 : ∀ x ∈ p0, x.block < W.heap.size := by obtain ⟨m, hm⟩ := k0; exact DataW.trod_lt m _ _ _ hm
  obtain ⟨ad0, cap0, L0, rfl, hL0, hn0, hc0, hr0, hz0⟩ := open_i64s (hval 0 40 v0 rfl rfl) h0
  obtain ⟨a1, rfl, rfl, rfl, wa1⟩ := open_int Tryd.underlying3 (hval 1 3 v1 rfl rfl) h1
  clear hA0 hval0
  have hT := env_of_laid hL
  refine (cashOrder_walk L0 ad0 cap0 a1 W hT hL0 hn0 hc0 hr0).mono fun e W' ⟨he, hg⟩ => ?_
  subst he
  exact ⟨_, rfl, _, _, _, [], _, [], hW', trodAll_mk1 (shut_bool Tryd.underlying4 _), trodAll_mk2 (Below.trod laidOut2 (by kernel_rfl) (of_decide_eq_true (by kernel_rfl)) k0 hg.below lt0) (shut_int Tryd.underlying3 wa1), rfl, hg.below.frame _, fun h => by cases h⟩

theorem cashOrder_holds : Rows.CashOrderSaid :=
  OpenClaim.holds_of_wide 7 Tryd.f7 rfl rfl rfl rfl rfl rfl rfl ⟨rfl, rfl, rfl, rfl, rfl⟩ rfl rfl rfl rfl rfl (by kernel_rfl) Tryd.func7 (by kernel_rfl)
    (of_decide_eq_true (by kernel_rfl)) (by unfold Func.isWrapper; first | (rw [if_pos (by decide +kernel)]; kernel_rfl) | (rw [if_neg (by decide +kernel)]; exact ⟨rfl, rfl⟩))
    (fun os started H enc _ => cashOrder_lifted os started H enc)

theorem cashOrder_card_holds : Rows.CashOrderCardSaid :=
  Claim7.holds_tied_plain_at .later [] [.data, .data, .data] true (true, "9a13fadc1322bc278e7fa5e9b49426233945e5fe552674b6b68a9f8865cee2ad") true
    cashOrder_holds (fun _ h => by cases h) (by kernel_rfl) (fun _ h => by cases h) cashOrder_row_tie rfl ⟨rfl, rfl⟩ (by kernel_rfl) rfl
    (fun f fn hf hfn => by
      obtain rfl : f = 7 := Option.some.inj ((show Tryd.prog.funcNamed "entente/ententelaw04.CashOrder" = some 7 by kernel_rfl).symm.trans hf) |>.symm
      obtain rfl : fn = Tryd.f7 := (Option.some.inj (Tryd.func7.symm.trans hfn)).symm
      exact ⟨by kernel_rfl, fun j t ht => by
        rw [Tryd.params7] at ht
        have hm : t ∈ [40, 3] := by simpa using Array.mem_of_getElem? ht
        have hall : ([40, 3].all fun u => !Tryd.prog.wantsStandIn u) = true := by kernel_rfl
        exact (show Tryd.prog.wantsStandIn t = false by simpa using List.all_eq_true.1 hall t hm)⟩)
    (by kernel_rfl)
end Go.Proofs.YtmidlcipbpchgabDoor
