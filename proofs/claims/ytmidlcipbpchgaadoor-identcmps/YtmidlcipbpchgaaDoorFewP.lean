/- few: have ids so few hops? numbers: are two lists of numbers the same? -/
import Derived.Test.YtmidlcipbpchgaaDoorIdA
import Derived.BigRegion
namespace Go.Proofs.YtmidlcipbpchgaaDoor
open Go.RowKit

/- ids in a row, of which the number of hops is told -/
def LensAt (w : World) (ad : Option Addr) (l : List Nat) : Prop :=
  ∀ j (h : j < l.length), ∃ b off, ad = some ⟨b, off, none⟩ ∧ b < w.heap.size ∧ ∃ ad2 cap2, w.cell? ⟨b, off + j * 3 + 2, none⟩ = some (.slice ad2 l[j] cap2)
def fewB (l : List Nat) : Bool := decide (l.length ≤ 101) && l.all fun n => decide (n ≤ 200)
def fewR : Nat → List Nat → Bool
  | _, [] => true
  | i, n :: t => decide (n ≤ 200) && decide (i ≤ 100) && fewR (i + 1) t
theorem fewR_eq (l : List Nat) : ∀ i, fewR i l = ((decide (l = []) || decide (l.length + i ≤ 101)) && l.all fun n => decide (n ≤ 200)) := by
  induction l with
  | nil => intro i; rfl
  | cons n t ih =>
    intro i
    rw [fewR, ih, List.all_cons]
    by_cases h : n ≤ 200
    · by_cases hi : i ≤ 100
      · by_cases ht : t = []
        · subst ht; simp [h, hi]; omega
        · have : (t.length + (i + 1) ≤ 101) = ((n :: t).length + i ≤ 101) := by simp; omega
          simp only [this]
          simp [h, hi, ht]
      · have : ¬ ((n :: t).length + i ≤ 101) := by simp; omega
        simp [hi]; intro; omega
    · simp [h]
theorem fewB_eq (l : List Nat) : fewB l = fewR 0 l := by
  rw [fewR_eq, fewB]
  by_cases h : l = []
  · subst h; simp
  · simp [h]

set_option maxHeartbeats 1000000 in
set_option maxRecDepth 100000 in
theorem few_any (l : List Nat) (ad : Option Addr) (cap : Nat) (w : World) (hL : LensAt w ad l) (hn : l.length ≤ 9223372036854775807) (hz : ∀ n ∈ l, n ≤ 9223372036854775807) :
    Calls Tryd.prog 17 #[.slice ad l.length cap] w fun e w' => e = .returned (.bool (fewB l)) ∧ w' = w := by
  have HL : Hid (LensAt w ad l) := hL
  have HZ : Hid (∀ n ∈ l, n ≤ 9223372036854775807) := hz
  clear hL hz
  go_enter Tryd.func17, Tryd.ntmps17
  go_wp2
  go_loop [3] (fun i => ∃ k : Nat, k ≤ l.length ∧ i = .int .i64 k ∧ fewB l = fewR k (l.drop k)) (fun i => l.length - (intOf i).toNat)
  case atStart => exact ⟨0, by omega, rfl, fewB_eq l⟩
  case round =>
    obtain ⟨k, hk, rfl, hs⟩ := hrel
    have HS : Hid (fewB l = fewR k (l.drop k)) := hs
    clear hs
    by_cases hlt : k < l.length
    · obtain ⟨b, off, rfl, hbl, ad2, cap2, hc⟩ := HL.out k hlt
      have hz := HZ.out l[k] (List.getElem_mem hlt)
      have HS2 : Hid (fewB l = (decide (l[k] ≤ 200) && decide (k ≤ 100) && fewR (k + 1) (l.drop (k + 1)))) := by
        show _ = _
        rw [HS.out, List.drop_eq_getElem_cons hlt, fewR]
      generalize l[k] = n at *
      by_cases h1 : n ≤ 200
      · by_cases h2 : k ≤ 100
        · have h1' : ¬ ((200 : Int) < n) := by omega
          have h2' : ¬ ((100 : Int) < k) := by omega
          have HF : Hid (fewB l = fewR (k + 1) (l.drop (k + 1))) := by show _ = _; rw [HS2.out]; simp [h1, h2]
          go_wp2
          go_round
          case rel => exact ⟨k + 1, by omega, by go_num, HF.out⟩
          case measure => simp [intOf]; omega
        · have h1' : ¬ ((200 : Int) < n) := by omega
          have h2' : (100 : Int) < k := by omega
          have HF : Hid (fewB l = false) := by show _ = _; rw [HS2.out]; simp [h2]
          go_wp2
          go_ret
          exact ⟨by rw [HF.out]; rfl, rfl⟩
      · have h1' : (200 : Int) < n := by omega
        have HF : Hid (fewB l = false) := by show _ = _; rw [HS2.out]; simp [h1]
        go_wp2
        go_ret
        exact ⟨by rw [HF.out]; rfl, rfl⟩
    · have HF : Hid (fewB l = true) := by show _ = _; rw [HS.out, List.drop_eq_nil_of_le (by omega)]; rfl
      go_wp2
      go_ret
      exact ⟨by rw [HF.out]; rfl, rfl⟩

set_option maxHeartbeats 1000000 in
set_option maxRecDepth 100000 in
theorem numbers_same (l : List Int) (ad ad2 : Option Addr) (cap cap2 : Nat) (w : World) (hL : IntsAt w ad l) (hM : IntsAt w ad2 l) (hn : l.length ≤ 1000) :
    Calls Tryd.prog 13 #[.slice ad l.length cap, .slice ad2 l.length cap2] w fun e w' => e = .returned (.bool true) ∧ Gr w w' := by
  have HL : Hid (IntsAt w ad l) := hL
  have HM : Hid (IntsAt w ad2 l) := hM
  have hne : ((l.length : Int) != l.length) = false := by simp
  clear hL hM
  go_enter Tryd.func13, Tryd.ntmps13
  go_wp2
  go_loopw [5] (fun i wr => ∃ k : Nat, k ≤ l.length ∧ i = .int .i64 k ∧ Gr w wr) (fun i _ => l.length - (intOf i).toNat)
  case atStart => exact ⟨0, by omega, rfl, Gr.refl _⟩
  case round =>
    obtain ⟨k, hk, rfl, hg⟩ := hrel
    by_cases hlt : k < l.length
    · obtain ⟨b, off, rfl, hbl, hc⟩ := HL.out k hlt
      obtain ⟨b2, off2, rfl, hbl2, hc2⟩ := HM.out k hlt
      have hd := hg.keep hc
      have hd2 := hg.keep hc2
      have hi : (k : Int) < l.length := by omega
      clear hc hc2
      generalize l[k] = o at *
      have hno : (o != o) = false := by simp
      go_wp2
      go_region
      go_wp2
      go_roundw
      case rel => exact ⟨k + 1, by omega, by go_num, hg.drew⟩
      case measure => simp [intOf]; omega
    · go_wp2
      go_ret
      exact ⟨rfl, hg⟩
end Go.Proofs.YtmidlcipbpchgaaDoor
