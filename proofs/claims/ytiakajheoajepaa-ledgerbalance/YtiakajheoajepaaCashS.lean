/- cash: Sum. -/
import Derived.Test.YtiakajheoajepaaCashP
import Derived.Laws.Externs
namespace Go.Proofs.Ytiakajheoajepaa
open Go.RowKit

theorem add64_any (x y : Int) (hx : 0 ≤ x) (hy : 0 ≤ y) (w : World) :
    (callFunc 90 #[.int .u64 x, .int .u64 y, .int .u64 0]).run Try.prog w = .ok (.value (.tuple #[.int .u64 ((x + y) % 18446744073709551616), .int .u64 ((x + y) / 18446744073709551616)])) w := by
  rw [run_callFunc_extern Try.func90 (by kernel_rfl) (by kernel_rfl) (by kernel_rfl) (e := add64Entry) (by kernel_rfl), run_add64 x y 0 hx hy (by omega) (by omega)]
  simp only [Result.andThen, Int.add_zero]

set_option maxHeartbeats 1000000 in
set_option maxRecDepth 100000 in
theorem sum_any (l : List Int) (ad : Option Addr) (cap : Nat) (w : World) (hL : IntsAt w ad l) (hn : l.length ≤ 9223372036854775807) (hr : ∀ a ∈ l, -9223372036854775808 ≤ a ∧ a ≤ 9223372036854775807) :
    Calls Try.prog 69 #[.slice ad l.length cap] w fun e w' => e = .returned (.tuple #[.int .i64 (Csh.valE (Csh.sumE l)), .int .i64 (Csh.errE (Csh.sumE l))]) ∧ w' = w := by
  have hb := Csh.sum_bound l hr
  have HN : Hid (Calls Try.prog 92 #[.int .u64 (Csh.highE (Csh.sumE l)), .int .u64 (Csh.lowE (Csh.sumE l))] w fun e w' => e = .returned (.tuple #[.int .i64 (Csh.valE (Csh.sumE l)), .int .i64 (Csh.errE (Csh.sumE l))]) ∧ w' = w) := narrow_any (Csh.sumE l) w (by omega) (by omega)
  have HL : Hid (IntsAt w ad l) := hL
  have HR : Hid (∀ a ∈ l, -9223372036854775808 ≤ a ∧ a ≤ 9223372036854775807) := hr
  clear hL hr hb
  go_enter Try.func69, Try.ntmps69
  go_wp2
  go_loop [4, 5, 11] (fun h o i => ∃ k : Nat, k ≤ l.length ∧ i = .int .i64 k ∧ h = .int .u64 (Csh.highE (Csh.sumE (l.take k))) ∧ o = .int .u64 (Csh.lowE (Csh.sumE (l.take k)))) (fun _ _ i => l.length - (intOf i).toNat)
  case atStart => exact ⟨0, by omega, rfl, rfl, rfl⟩
  case round =>
    obtain ⟨k, hk, rfl, rfl, rfl⟩ := hrel
    by_cases hlt : k < l.length
    · obtain ⟨b, off, rfl, hbl, hc⟩ := HL.out k hlt
      have hz := HR.out l[k] (List.getElem_mem hlt)
      have hm : Csh.sumE (l.take (k + 1)) = Csh.sumE (l.take k) + l[k] := Csh.sum_more l k hlt
      have HM : Hid (Csh.sumE (l.take (k + 1)) = Csh.sumE (l.take k) + l[k]) := hm
      have HU : Hid (Calls Try.prog 91 #[.int .i64 l[k]] w fun e w' => e = .returned (.int .u64 (Csh.up l[k])) ∧ w' = w) := upper_any l[k] w hz.1 hz.2
      have hs := Csh.high_step (Csh.sumE (l.take k)) l[k] hz.1 hz.2
      have hlo := Csh.low_step (Csh.sumE (l.take k)) l[k]
      have hadd := add64_any (Csh.lowE (Csh.sumE (l.take k))) (Csh.lowE l[k]) (Csh.low_rng _).1 (Csh.low_rng _).1
      have hwa : IntKind.u64.wrap l[k] = Csh.lowE l[k] := by rw [IntKind.wrap_u64]; rfl
      have hw1 := IntKind.wrap_u64 (Csh.up l[k] + (Csh.lowE (Csh.sumE (l.take k)) + Csh.lowE l[k]) / 18446744073709551616)
      have hw2 := IntKind.wrap_u64 (Csh.highE (Csh.sumE (l.take k)) + (Csh.up l[k] + (Csh.lowE (Csh.sumE (l.take k)) + Csh.lowE l[k]) / 18446744073709551616) % 18446744073709551616)
      rw [hs] at hw2
      rw [hlo] at hadd
      rw [← hm] at hw2 hadd
      clear hs hlo hm
      generalize (Csh.up l[k] + (Csh.lowE (Csh.sumE (l.take k)) + Csh.lowE l[k]) / 18446744073709551616) % 18446744073709551616 = v1 at *
      generalize (Csh.lowE (Csh.sumE (l.take k)) + Csh.lowE l[k]) / 18446744073709551616 = cy at *
      generalize Csh.up l[k] = ua at *
      generalize Csh.lowE l[k] = la at *
      generalize l[k] = a at *
      generalize Csh.highE (Csh.sumE (l.take k)) = hs at *
      generalize Csh.lowE (Csh.sumE (l.take k)) = ls at *
      obtain ⟨lo, elo⟩ : ∃ x, Csh.lowE (Csh.sumE (l.take (k + 1))) = x := ⟨_, rfl⟩
      obtain ⟨hi, ehi⟩ : ∃ x, Csh.highE (Csh.sumE (l.take (k + 1))) = x := ⟨_, rfl⟩
      have ELO : Hid (Csh.lowE (Csh.sumE (l.take (k + 1))) = lo) := elo
      have EHI : Hid (Csh.highE (Csh.sumE (l.take (k + 1))) = hi) := ehi
      rw [elo] at hadd
      rw [ehi] at hw2
      clear elo ehi HM
      go_wp2_with fail
      refine HU.out.mono ?_
      rintro e w1 ⟨rfl, hww⟩; obtain rfl := hww.symm
      go_wp2
      go_round
      case rel => exact ⟨k + 1, by omega, by go_num, by rw [EHI.out], by rw [ELO.out]⟩
      case measure => simp [intOf]; omega
    · have hkl : l.take k = l := List.take_of_length_le (by omega)
      have HE : Hid (l.take k = l) := hkl
      clear hkl
      rw [HE.out]
      go_wp2_with fail
      refine HN.out.mono ?_
      rintro e w1 ⟨rfl, hww⟩; obtain rfl := hww.symm
      go_wp2
      go_ret2
      exact ⟨rfl, rfl⟩
end Go.Proofs.Ytiakajheoajepaa
