/- For every input the law CashMany answers true: a product by a small number is the sum of as many, and it is the same the other way round. -/
import Derived.Test.YtmidlcipbpchgabDoorLaidC
import Derived.Test.YtmidlcipbpchgabDoorCashK
import Derived.Test.YtmidlcipbpchgabDoorCashO
import Derived.SevenTiedAt
namespace Go.Proofs.YtmidlcipbpchgabDoor
open Go.ChangeShapes Go.WideShapes Go.ChangeAt Go.RowKit
open Go.ChangeMaps (open_string shut_string)


set_option maxHeartbeats 8000000 in
set_option maxRecDepth 100000 in
theorem cashMany_walk (a n : Int) (w : World) (he : Env w) (ha : -9223372036854775808 ≤ a) (ha1 : a ≤ 9223372036854775807) (hn : -9223372036854775808 ≤ n) (hn1 : n ≤ 9223372036854775807) :
    Calls Tryd.prog 8 #[.int .i64 a, .int .i64 n] w fun e w' => e = .returned (.bool true) ∧ Gr w w' := by
  have HA : Hid (∀ w', Gr w w' → Calls Tryd.prog 19 #[] w' fun e w2 => e = .returned (.bool true) ∧ Gr w' w2) := fun w' g => awake_any w' (he.gr g)
  have HT : Hid (Calls Tryd.prog 22 #[.int .i64 a, .int .i64 n] w fun e w' => e = .returned (.tuple #[.int .i64 (Csh.valE (a * n)), .int .i64 (Csh.errE (a * n))]) ∧ w' = w) := times_all a n w ha ha1 hn hn1
  have HU : Hid (Calls Tryd.prog 22 #[.int .i64 n, .int .i64 a] w fun e w' => e = .returned (.tuple #[.int .i64 (Csh.valE (a * n)), .int .i64 (Csh.errE (a * n))]) ∧ w' = w) := by
    have := times_all n a w hn hn1 ha ha1
    rw [Int.mul_comm] at this
    exact this
  have HS : Hid (0 ≤ n → n ≤ 200 → ∀ (w' : World) (ad : Option Addr) (cap : Nat), IntsAt w' ad (List.replicate n.toNat a) → Calls Tryd.prog 20 #[.slice ad n.toNat cap] w' fun e w2 => e = .returned (.tuple #[.int .i64 (Csh.valE (a * n)), .int .i64 (Csh.errE (a * n))]) ∧ w2 = w') := by
    intro h0 h1 w' ad cap h
    have := sum_any (List.replicate n.toNat a) ad cap w' h (by simp; omega) (by intro x hx; rw [List.eq_of_mem_replicate hx]; exact ⟨ha, ha1⟩)
    rw [Csh.sum_replicate, List.length_replicate, show ((n.toNat : Nat) : Int) = n by omega] at this
    exact this
  generalize Csh.valE (a * n) = x at *
  generalize Csh.errE (a * n) = y at *
  have e1 : (x == x) = true := by simp
  have e2 : (y == y) = true := by simp
  have e3 : (x != x) = false := by simp
  have e4 : (y != y) = false := by simp
  clear he
  by_cases h0 : n < 0
  · clear HS
    go_enter Tryd.func8, Tryd.ntmps8
    go_wp2_with fail
    refine HT.out.mono ?_
    rintro e w1 ⟨rfl, hw1⟩; obtain rfl := hw1.symm
    go_wp2_with fail
    refine HU.out.mono ?_
    rintro e w1 ⟨rfl, hw1⟩; obtain rfl := hw1.symm
    go_wp2_with fail
    refine (HA.out _ (by repeat (first | exact Gr.refl _ | refine Gr.alloc ?_ | refine Gr.drew ?_ | refine Gr.trans ?_ (by assumption)))).mono ?_
    rintro e w1 ⟨rfl, hg1⟩
    go_wp2
    go_ret
    exact ⟨rfl, hg1⟩
  by_cases h2 : 200 < n
  · clear HS
    go_enter Tryd.func8, Tryd.ntmps8
    go_wp2_with fail
    refine HT.out.mono ?_
    rintro e w1 ⟨rfl, hw1⟩; obtain rfl := hw1.symm
    go_wp2_with fail
    refine HU.out.mono ?_
    rintro e w1 ⟨rfl, hw1⟩; obtain rfl := hw1.symm
    go_wp2_with fail
    refine (HA.out _ (by repeat (first | exact Gr.refl _ | refine Gr.alloc ?_ | refine Gr.drew ?_ | refine Gr.trans ?_ (by assumption)))).mono ?_
    rintro e w1 ⟨rfl, hg1⟩
    go_wp2
    go_ret
    exact ⟨rfl, hg1⟩
  obtain ⟨i0, hi, hz0, hz1, hz2⟩ := info_parts infoI64
  go_enter Tryd.func8, Tryd.ntmps8
  go_wp2_with fail
  refine HT.out.mono ?_
  rintro e w1 ⟨rfl, hw1⟩; obtain rfl := hw1.symm
  go_wp2_with fail
  refine HU.out.mono ?_
  rintro e w1 ⟨rfl, hw1⟩; obtain rfl := hw1.symm
  go_wp2
  go_loopw [9, 10] (fun p i wr => ∃ k : Nat, (k : Int) ≤ n ∧ i = .int .i64 k ∧ wr.ownsRow w.heap.size 2 1 p k (intV (List.replicate k a)) ∧ Below w.heap.size w wr)
    (fun _ i _ => n.toNat - (intOf i).toNat)
  case atStart => exact ⟨0, by omega, rfl, ⟨rfl, Or.inl ⟨rfl, rfl⟩⟩, Below.refl _ _⟩
  case round =>
    obtain ⟨k, hk, rfl, hown, hb⟩ := hrel
    have hbs := hb.size
    by_cases hlt : (k : Int) < n
    · have HP : Hid (intV (List.replicate (k + 1) a) = intV (List.replicate k a) ++ [.int .i64 a]) := by
        show _ = _
        rw [List.replicate_succ', intV_snoc]
      have hm1 : k + 1 ≤ maxLen := by unfold maxLen; omega
      go_wp2_with (first
        | (at_builtin; refine wpList_append_own _ rfl _ _ 40 rfl w.heap.size 2 i0 (.int .i64 0) 1 8 Tryd.underlying40 hi hz0 hz1 hz2 rfl (by decide) _ _ _ rfl (hown.alloc _) ⟨wr.heap.size, 0, none⟩ 1 1 [.int .i64 a] rfl rfl (cell_one_at _ _ _ _ (by simp)) (by intro u hu; simp at hu; subst hu; rfl) hm1 (by omega) (by simp; omega) ?_)
        | fail)
      intro v' w1 hown' hgrow _
      go_wp2
      go_roundw
      case rel =>
        exact ⟨k + 1, by omega, by go_num, by rw [HP.out]; exact hown', (hb.alloc hbs _).grown hgrow (by simp; omega) (fun k hk => (hown.lt k hk).1)⟩
      case measure => simp [intOf]; omega
    · obtain rfl : k = n.toNat := by omega
      have key : ∀ {u : Value}, wr.ownsRow w.heap.size 2 1 u n.toNat (intV (List.replicate n.toNat a)) → ∃ ad2 cap2, u = .slice ad2 n.toNat cap2 ∧ IntsAt wr ad2 (List.replicate n.toNat a) := by
        intro u h
        obtain ⟨ad2, cap2, e, _, h4⟩ := own_ints (l := List.replicate n.toNat a) (by rw [List.length_replicate]; exact h)
        rw [List.length_replicate] at e
        exact ⟨ad2, cap2, e, h4⟩
      obtain ⟨ad2, cap2, rfl, hia⟩ := key hown
      have HI : Hid (IntsAt wr ad2 (List.replicate n.toNat a)) := hia
      have HG : Hid (Gr w wr) := ⟨hb⟩
      clear hown key hia hb hbs
      go_wp2_with fail
      refine (HS.out (by omega) (by omega) _ _ _ HI.out).mono ?_
      rintro e w2 ⟨rfl, hw2⟩; obtain rfl := hw2.symm
      go_wp2_with fail
      refine (HA.out _ HG.out).mono ?_
      rintro e w3 ⟨rfl, hg3⟩
      go_wp2
      go_ret
      exact ⟨rfl, HG.out.trans hg3⟩

set_option maxRecDepth 100000 in
theorem cashMany_lifted (os : Os) (started : os.Started) (H : Type) (enc : TypeId × Value → H) :
    ReturnsInHanded {} Tryd.checked os 8 .any (fun w args => (Rows.cashManySpec.pre enc Tryd.prog Tryd.f8 [] false w args ∧ laidMetH Tryd.prog laidL w) ∧ sizedMet enc Tryd.prog Tryd.f8 (OpenSpec.ofChange Rows.cashManySpec) false w args)
      (Rows.cashManySpec.post enc Tryd.prog Tryd.f8 false true false false) := by
  refine returnsInHanded_of_change_and (C := Tryd.checked) (X := fun w _ => laidMetH Tryd.prog laidL w) (fun _ _ _ hh h => h.of_heap hh) own2 started (by kernel_rfl) Tryd.func8
    (ChangeSpec.witness_shaped (enc := enc) (C := Tryd.checked) (os := os) (X := fun w _ => laidMetH Tryd.prog laidL w) false (World.doorLaid Tryd.prog 400 os) #[.int .i64 0, .int .i64 0] 8 rfl (World.shaped_of_RefB (by kernel_rfl) (by kernel_rfl)) (by kernel_rfl) (by kernel_rfl) (by kernel_rfl) (door_met os _)) ?_
  intro W base args ds gs before hval0 hW _ hsz0 hL _
  have hval : ∀ (j : Nat) t v, Tryd.f8.params[j]? = some t → args[j]? = some v → Value.okWide Tryd.prog W .any base t v := hval0
  have hsz : (DataW.weightsEach Tryd.prog (Tryd.f8.params.toList ++ Rows.cashManySpec.plain.varTypes Tryd.prog) (ds ++ gs)).all (· ≤ reachBytes) = true := hsz0
  have hW' := hW
  obtain ⟨p, q, hA0, hV, rfl, hfz, hnd⟩ := hW
  have hA : DataW.TrodAll enc Tryd.prog W 0 (fun _ => true) true Tryd.f8.params.toList args.toList ds p := hA0
  rw [Tryd.params8] at hA hval hsz
  obtain ⟨v0, v1, d0, d1, p0, p1, rfl, rfl, rfl, h0, h1⟩ := trodAll_two hA
  obtain ⟨rfl, rfl⟩ := trodVars_none hV
  obtain ⟨a0, rfl, rfl, rfl, wa0⟩ := open_int Tryd.underlying2 (hval 0 2 v0 rfl rfl) h0
  have rg0 := rng_i64 wa0
  obtain ⟨a1, rfl, rfl, rfl, wa1⟩ := open_int Tryd.underlying2 (hval 1 2 v1 rfl rfl) h1
  have rg1 := rng_i64 wa1
  clear hA0 hval0
  have hT := env_of_laid hL
  refine (cashMany_walk a0 a1 W hT rg0.1 rg0.2 rg1.1 rg1.2).mono fun e W' ⟨he, hg⟩ => ?_
  subst he
  exact ⟨_, rfl, _, _, _, [], _, [], hW', trodAll_mk1 (shut_bool Tryd.underlying4 _), trodAll_mk2 (shut_int Tryd.underlying2 wa0) (shut_int Tryd.underlying2 wa1), rfl, hg.below.frame _, fun h => by cases h⟩

theorem cashMany_holds : Rows.CashManySaid :=
  OpenClaim.holds_of_wide 8 Tryd.f8 rfl rfl rfl rfl rfl rfl rfl ⟨rfl, rfl, rfl, rfl, rfl⟩ rfl rfl rfl rfl rfl (by kernel_rfl) Tryd.func8 (by kernel_rfl)
    (of_decide_eq_true (by kernel_rfl)) (by unfold Func.isWrapper; first | (rw [if_pos (by decide +kernel)]; kernel_rfl) | (rw [if_neg (by decide +kernel)]; exact ⟨rfl, rfl⟩))
    (fun os started H enc _ => cashMany_lifted os started H enc)

theorem cashMany_card_holds : Rows.CashManyCardSaid :=
  Claim7.holds_tied_plain_at .later [] [.data, .data, .data] true (true, "9a13fadc1322bc278e7fa5e9b49426233945e5fe552674b6b68a9f8865cee2ad") true
    cashMany_holds (fun _ h => by cases h) (by kernel_rfl) (fun _ h => by cases h) cashMany_row_tie rfl ⟨rfl, rfl⟩ (by kernel_rfl) rfl
    (fun f fn hf hfn => by
      obtain rfl : f = 8 := Option.some.inj ((show Tryd.prog.funcNamed "entente/ententelaw04.CashMany" = some 8 by kernel_rfl).symm.trans hf) |>.symm
      obtain rfl : fn = Tryd.f8 := (Option.some.inj (Tryd.func8.symm.trans hfn)).symm
      exact ⟨by kernel_rfl, fun j t ht => by
        rw [Tryd.params8] at ht
        have hm : t ∈ [2, 2] := by simpa using Array.mem_of_getElem? ht
        have hall : ([2, 2].all fun u => !Tryd.prog.wantsStandIn u) = true := by kernel_rfl
        exact (show Tryd.prog.wantsStandIn t = false by simpa using List.all_eq_true.1 hall t hm)⟩)
    (by kernel_rfl)
end Go.Proofs.YtmidlcipbpchgabDoor
