/- The statements' own on logs: Room, few. -/
import Derived.Test.YtojmhhmpmpbpfaaGreatDoorGBA
import Derived.Test.YtojmhhmpmpbpfaaGreatDoorGL
import Derived.Test.YtojmhhmpmpbpfaaGreatDoorOpnW
namespace Go.Proofs.YtojmhhmpmpbpfaaGreatDoor
open Go.RowKit Go.Maps
open Dk (Fl Fo St Ok)
variable {u w w' w1 : World} {b m g : Nat} {s : St} {l : Wl.Lg} {h : Wl.Bo}

def romE (n : Int) : Int := 20 + n.tmod 400 % 400
theorem rom_rng (n : Int) : 20 ≤ romE n ∧ romE n ≤ 419 := by
  unfold romE
  omega
set_option maxHeartbeats 4000000 in
set_option maxRecDepth 100000 in
theorem room_any (n : Int) (w : World) : Calls Tryz.prog 15 #[.int .i64 n] w fun e w' => e = .returned (.int .i64 (romE n)) ∧ w' = w := by
  have hr := rom_rng n
  have h5 : -400 < n.tmod 400 ∧ n.tmod 400 < 400 := by
    have h2 := Int.tmod_lt_of_pos n (show (0 : Int) < 400 by decide)
    have h3 := Int.lt_tmod_of_pos n (show (0 : Int) < 400 by decide)
    omega
  unfold romE at *
  go_enter Tryz.func15, Tryz.ntmps15
  go_wp2
  go_ret
  exact ⟨rfl, rfl⟩
theorem aw_at {T : List Aw} {ad : Option Addr} (h : RowAt awf w ad T) (k : Nat) (hk : k < T.length) : ∃ x off, ad = some ⟨x, off, none⟩ ∧ x < w.heap.size ∧ w.cell? ⟨x, off + k * 4, none⟩ = some (.int .i64 T[k].k) ∧ w.cell? ⟨x, off + k * 4 + 1, none⟩ = some (.string T[k].d) ∧ w.cell? ⟨x, off + k * 4 + 2, none⟩ = some (.int .i64 T[k].z) ∧ w.cell? ⟨x, off + k * 4 + 3, none⟩ = some (.slice T[k].ka T[k].K.length T[k].kc) := by
  obtain ⟨x, off, e, h1, h2⟩ := h _ _ (flat_get awf_len T k hk 0 (by omega))
  obtain ⟨x1, off1, e1, _, h3⟩ := h _ _ (flat_get awf_len T k hk 1 (by omega))
  obtain ⟨x2, off2, e2, _, h4⟩ := h _ _ (flat_get awf_len T k hk 2 (by omega))
  obtain ⟨x3, off3, e3, _, h5⟩ := h _ _ (flat_get awf_len T k hk 3 (by omega))
  subst e
  cases e1; cases e2; cases e3
  rw [← Nat.add_assoc] at h3 h4 h5
  exact ⟨_, _, rfl, h1, h2, h3, h4, h5⟩
set_option maxHeartbeats 8000000 in
set_option maxRecDepth 100000 in
theorem few17_any (T : List Aw) (ad : Option Addr) (cap : Nat) (w : World) (hT : Awts w ad T) :
    Calls Tryz.prog 13 #[.slice ad T.length cap] w fun e w' => ∃ v : Bool, e = .returned (.bool v) ∧ (v = true → T.length ≤ 600) ∧ Gr w w' := by
  have HT := Lib.hid hT
  have hln := hT.len
  clear hT
  go_enter Tryz.func13, Tryz.ntmps13
  go_wp2
  go_loopw [4, 3] (fun i c wr => ∃ (k : Nat) (n : Int), k ≤ T.length ∧ i = .int .i64 (k : Int) ∧ c = .int .i64 n ∧ 100 * (k : Int) ≤ n ∧ n ≤ 60000 ∧ Gr w wr) (fun i _ _ => T.length - (intOf i).toNat)
  case atStart => exact ⟨0, 0, Nat.zero_le _, rfl, rfl, by omega, by omega, Gr.refl w⟩
  case round =>
    obtain ⟨k, n, hk, rfl, rfl, hn0, hn1, hg⟩ := hrel
    by_cases hlt : k < T.length
    · obtain ⟨x, off, hade, hxb, _, c3, _, c4⟩ := aw_at HT.out.row k hlt
      have c3 := hg.keep c3
      have c4 := hg.keep c4
      have hd1 := (HT.out.each _ (List.getElem_mem hlt)).ds
      have hK1 := (HT.out.each _ (List.getElem_mem hlt)).kl
      have HG := Lib.hid hg
      subst hade
      clear hg
      generalize T[k] = y at *
      obtain ⟨yk, yd, yz, ya, yc, yK⟩ := y
      simp only at *
      obtain ⟨wg, hwg⟩ : ∃ wg : Int, wg = 100 + min (yd.size : Int) 50000 + 10 * min (yK.length : Int) 10000 := ⟨_, rfl⟩
      have hw5 : 100 ≤ wg := by omega
      have hsum : n + (100 + min (yd.size : Int) 50000 + 10 * min (yK.length : Int) 10000) = n + wg := by rw [hwg]
      go_wp2
      go_region
      by_cases h6 : 60000 < n + wg
      · have d6 : decide (60000 < n + wg) = true := decide_eq_true h6
        go_wp2
        go_ret
        exact ⟨false, rfl, (fun e => by cases e), HG.out.drew⟩
      · have d6 : decide (60000 < n + wg) = false := decide_eq_false h6
        go_wp2
        go_roundw
        case rel => exact ⟨k + 1, n + wg, by omega, by simp, rfl, by omega, by omega, HG.out.drew⟩
        case measure => simp [intOf]; omega
    · have HG := Lib.hid hg
      have hl6 : T.length ≤ 600 := by omega
      clear hg
      go_wp2
      go_ret
      exact ⟨true, rfl, fun _ => hl6, HG.out⟩
end Go.Proofs.YtojmhhmpmpbpfaaGreatDoor
