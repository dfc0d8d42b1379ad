
/- The statements' own: later, few; the document's Same at equal rows. -/
import Derived.Test.YtmgiiofjlgchfaaDoorWhV
import Derived.Test.YtmgiiofjlgchfaaDoorOpenW
namespace Go.Proofs.YtmgiiofjlgchfaaDoor
open Go.RowKit Go.Maps Go.Sort
open Wh (Tm Sl ks hasK atK del ins put dig whl Inv tlt Up trn upto past)

def ltr (now step : Int) : Int := if step < -1000 ∨ 1000000000 < step then -1 else now + step
set_option maxHeartbeats 1000000 in
theorem later_any (now step : Int) (w : World) (h0 : 0 ≤ now) (h1 : now ≤ 1000000000) : Calls Tryd.prog 12 #[.int .i64 now, .int .i64 step] w fun e w' => e = .returned (.int .i64 (ltr now step)) ∧ w' = w := by
  have HL : Hid (ltr now step = if step < -1000 ∨ 1000000000 < step then -1 else now + step) := rfl
  generalize ltr now step = r at HL
  by_cases h2 : step < -1000
  · have HR : Hid (r = -1) := by show r = -1; rw [HL.out, if_pos (Or.inl h2)]
    clear HL
    go_enter Tryd.func12, Tryd.ntmps12
    go_wp2
    go_ret
    exact ⟨by rw [HR.out]; rfl, rfl⟩
  · by_cases h3 : 1000000000 < step
    · have HR : Hid (r = -1) := by show r = -1; rw [HL.out, if_pos (Or.inr h3)]
      clear HL
      go_enter Tryd.func12, Tryd.ntmps12
      go_wp2
      go_ret
      exact ⟨by rw [HR.out]; rfl, rfl⟩
    · have HR : Hid (r = now + step) := by show r = _; rw [HL.out, if_neg (by omega)]
      clear HL
      go_enter Tryd.func12, Tryd.ntmps12
      go_wp2
      go_ret
      exact ⟨by rw [HR.out]; rfl, rfl⟩
/- an element of a row that came in -/
theorem ac_at {w : World} {ad : Option Addr} {T : List Ac} (h : RowAt acf w ad T) (j : Nat) (hj : j < T.length) : ∃ b off, ad = some ⟨b, off, none⟩ ∧ b < w.heap.size ∧ w.cell? ⟨b, off + j * 3, none⟩ = some (.int .i64 T[j].k) ∧ w.cell? ⟨b, off + j * 3 + 1, none⟩ = some (.string T[j].s) ∧ w.cell? ⟨b, off + j * 3 + 2, none⟩ = some (.int .i64 T[j].a) := by
  have h0 := flat_get acf_len T j hj 0 (by omega)
  have h1 := flat_get acf_len T j hj 1 (by omega)
  have h2 := flat_get acf_len T j hj 2 (by omega)
  obtain ⟨b, off, e, hb, c0⟩ := h _ _ (h0.trans rfl)
  obtain ⟨b1, o1, e1, _, c1⟩ := h _ _ (h1.trans rfl)
  obtain ⟨b2, o2, e2, _, c2⟩ := h _ _ (h2.trans rfl)
  rw [e] at e1 e2
  cases e1; cases e2
  exact ⟨b, off, e, hb, by simpa using c0, by rw [Nat.add_assoc]; exact c1, by rw [Nat.add_assoc]; exact c2⟩
theorem tm_at {w : World} {ad : Option Addr} {T : List Tm} (h : RowAt tmf w ad T) (j : Nat) (hj : j < T.length) : ∃ b off, ad = some ⟨b, off, none⟩ ∧ b < w.heap.size ∧ w.cell? ⟨b, off + j * 2, none⟩ = some (.string T[j].1) ∧ w.cell? ⟨b, off + j * 2 + 1, none⟩ = some (.int .i64 (T[j].2 : Int)) := by
  have h0 := flat_get tmf_len T j hj 0 (by omega)
  have h1 := flat_get tmf_len T j hj 1 (by omega)
  obtain ⟨b, off, e, hb, c0⟩ := h _ _ (h0.trans rfl)
  obtain ⟨b1, o1, e1, _, c1⟩ := h _ _ (h1.trans rfl)
  rw [e] at e1
  cases e1
  exact ⟨b, off, e, hb, by simpa using c0, by rw [Nat.add_assoc]; exact c1⟩
def fewG : List Ac → Int → Bool
  | [], n => decide (n ≤ 200000)
  | x :: t, n => if 1000 < x.s.size then false else fewG t (if x.k = 3 ∧ 0 < x.a ∧ x.a ≤ 100000 then n + x.a else n)
def fewB (T : List Ac) : Bool := if 250 < T.length then false else fewG T 0
set_option maxHeartbeats 4000000 in
theorem few_any (T : List Ac) (ad : Option Addr) (cap : Nat) (w : World) (hT : RowAt acf w ad T) (hn : T.length ≤ 9223372036854775807) :
    Calls Tryd.prog 7 #[.slice ad T.length cap] w fun e w' => e = .returned (.bool (fewB T)) ∧ w' = w := by
  by_cases h250 : 250 < T.length
  · have h250' : (250 : Int) < (T.length : Int) := by omega
    have HF : Hid (fewB T = false) := by show fewB T = false; unfold fewB; rw [if_pos h250]
    go_enter Tryd.func7, Tryd.ntmps7
    go_wp2
    go_ret
    exact ⟨by rw [HF.out]; rfl, rfl⟩
  · have h250' : ¬ (250 : Int) < (T.length : Int) := by omega
    have HF : Hid (fewB T = fewG (T.drop 0) 0) := by show fewB T = _; unfold fewB; rw [if_neg h250]; rfl
    generalize fewB T = r at HF
    go_enter Tryd.func7, Tryd.ntmps7
    go_wp2
    go_loop [3, 4] (fun n i => ∃ (k : Nat) (z : Int), k ≤ T.length ∧ i = .int .i64 (k : Int) ∧ n = .int .i64 z ∧ 0 ≤ z ∧ z ≤ k * 100000 ∧ Hid (r = fewG (T.drop k) z)) (fun _ i => T.length - (intOf i).toNat)
    case atStart => exact ⟨0, 0, Nat.zero_le _, rfl, rfl, by omega, by omega, HF⟩
    case round =>
      obtain ⟨k, z, hk, rfl, rfl, hz0, hz1, HE⟩ := hrel
      clear HF
      by_cases hlt : k < T.length
      · have hdr : T.drop k = T[k] :: T.drop (k + 1) := List.drop_eq_getElem_cons hlt
        have HE2 : Hid (r = if 1000 < T[k].s.size then false else fewG (T.drop (k + 1)) (if T[k].k = 3 ∧ 0 < T[k].a ∧ T[k].a ≤ 100000 then z + T[k].a else z)) := by
          have := HE.out
          rw [hdr] at this
          exact this
        obtain ⟨b, off, rfl, hb, c0, c1, c2⟩ := ac_at hT k hlt
        clear hdr HE
        generalize T[k].k = tk at *
        generalize T[k].s = ts at *
        generalize T[k].a = ta at *
        by_cases h1000 : (1000 : Int) < (ts.size : Int)
        · have HR : Hid (r = false) := by show r = false; rw [HE2.out, if_pos (by omega)]
          clear HE2
          go_wp2
          go_ret
          exact ⟨by rw [HR.out]; rfl, rfl⟩
        · by_cases hk3 : tk = 3
          · subst hk3
            by_cases hp : 0 < ta
            · by_cases hq : ta ≤ 100000
              · have HR : Hid (r = fewG (T.drop (k + 1)) (z + ta)) := by show r = _; rw [HE2.out, if_neg (by omega), if_pos ⟨rfl, hp, hq⟩]
                clear HE2
                go_wp2
                go_round
                case rel => exact ⟨k + 1, _, by omega, by simp, rfl, by omega, by omega, HR⟩
                case measure => simp [intOf]; omega
              · have HR : Hid (r = fewG (T.drop (k + 1)) z) := by show r = _; rw [HE2.out, if_neg (by omega), if_neg (by omega)]
                clear HE2
                go_wp2
                go_round
                case rel => exact ⟨k + 1, _, by omega, by simp, rfl, by omega, by omega, HR⟩
                case measure => simp [intOf]; omega
            · have HR : Hid (r = fewG (T.drop (k + 1)) z) := by show r = _; rw [HE2.out, if_neg (by omega), if_neg (by omega)]
              clear HE2
              go_wp2
              go_round
              case rel => exact ⟨k + 1, _, by omega, by simp, rfl, by omega, by omega, HR⟩
              case measure => simp [intOf]; omega
          · have hb3 : (tk == 3) = false := by simpa using hk3
            have HR : Hid (r = fewG (T.drop (k + 1)) z) := by show r = _; rw [HE2.out, if_neg (by omega), if_neg (by omega)]
            clear HE2
            go_wp2
            go_round
            case rel => exact ⟨k + 1, _, by omega, by simp, rfl, by omega, by omega, HR⟩
            case measure => simp [intOf]; omega
      · obtain rfl : k = T.length := by omega
        have HR : Hid (r = decide (z ≤ 200000)) := by show r = _; rw [HE.out, List.drop_eq_nil_of_le (Nat.le_refl _)]; rfl
        clear HE
        go_wp2
        go_ret
        exact ⟨by rw [HR.out]; rfl, rfl⟩
set_option maxHeartbeats 4000000 in
theorem same_eq (L : List Tm) (a1 a2 : Option Addr) (c1 c2 : Nat) (w : World) (h1 : RowAt tmf w a1 L) (h2 : RowAt tmf w a2 L) (hn : L.length ≤ 9223372036854775807) :
    Calls Tryd.prog 16 #[.slice a1 L.length c1, .slice a2 L.length c2] w fun e w' => e = .returned (.bool true) ∧ Gr w w' := by
  go_enter Tryd.func16, Tryd.ntmps16
  go_wp2
  go_loopw [5] (fun i wr => ∃ (k : Nat), k ≤ L.length ∧ i = .int .i64 (k : Int) ∧ Gr w wr) (fun i _ => L.length - (intOf i).toNat)
  case atStart => exact ⟨0, Nat.zero_le _, rfl, Gr.refl _⟩
  case round =>
    obtain ⟨k, hk, rfl, hg⟩ := hrel
    by_cases hlt : k < L.length
    · obtain ⟨b, off, rfl, hb, p0, p1⟩ := tm_at (h1.gr hg) k hlt
      obtain ⟨b', off', rfl, hb', q0, q1⟩ := tm_at (h2.gr hg) k hlt
      have HG : Hid (Gr w wr) := hg
      generalize L[k].1 = x at *
      generalize (L[k].2 : Int) = y at *
      clear hg
      go_wp2
      go_quiet (fail)
      go_wp2
      go_roundw
      case rel => exact ⟨k + 1, by omega, by simp, HG.out.drewN _⟩
      case measure => simp [intOf]; omega
    · obtain rfl : k = L.length := by omega
      go_wp2
      go_ret
      exact ⟨rfl, hg⟩
end Go.Proofs.YtmgiiofjlgchfaaDoor
