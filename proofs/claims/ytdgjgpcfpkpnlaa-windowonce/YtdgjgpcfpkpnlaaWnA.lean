
/- Windows in memory; May, as the program and as the document has it; Has; whether two rows, two windows are the same. -/
import Derived.Test.YtdgjgpcfpkpnlaaWnM
import Derived.Test.YtdgjgpcfpkpnlaaRowG
import Derived.WalkSmall
import Derived.BigQuiet
import Derived.Lib.Hide
namespace Go.Proofs.Ytdgjgpcfpkpnlaa
open Go.RowKit
open Wn (Wd)

/- a window as a value, and its row in memory -/
abbrev wdV (l : Int) (ad : Option Addr) (n cap : Nat) : Value := .agg #[.int .i64 l, .slice ad n cap]
structure WdAt (w : World) (ad : Option Addr) (cap : Nat) (W : Wd) : Prop where
  row : IntsAt w ad W.seen
  fits : W.seen.length ≤ cap
  len : W.seen.length ≤ 9223372036854775807
  non : ad = none → cap = 0
  lo0 : -9223372036854775808 ≤ W.low
  lo1 : W.low ≤ 9223372036854775807
theorem WdAt.gr {w w' : World} {ad : Option Addr} {cap : Nat} {W : Wd} (h : WdAt w ad cap W) (g : Gr w w') : WdAt w' ad cap W := ⟨h.row.gr g, h.fits, h.len, h.non, h.lo0, h.lo1⟩
def mayE (W : Wd) : Int := if Wn.may W = true then 0 else 2
theorem rise_at {l : List Int} {k : Nat} (hk : k < l.length) (b hi : Int) : Wn.rise b hi (l.drop k) = (decide (b < l[k]) && decide (l[k] ≤ hi) && Wn.rise l[k] hi (l.drop (k + 1))) := by
  rw [List.drop_eq_getElem_cons hk]; rfl
theorem Gr.dn {a b : World} (h : Gr a b) (q : Nat) : Gr a (b.drewN q) := by
  induction q with
  | zero => exact h
  | succ q ih => exact ih.drew
set_option maxHeartbeats 4000000 in
set_option maxRecDepth 100000 in
theorem may_any (W : Wd) (ad : Option Addr) (cap : Nat) (w : World) (h : WdAt w ad cap W) :
    Calls Try.prog 9 #[wdV W.low ad W.seen.length cap] w fun e w' => e = .returned (.int .i64 (mayE W)) ∧ Gr w w' := by
  obtain ⟨low, l⟩ := W
  obtain ⟨hr, hcap, hcm, hnon, h0, h1⟩ := h
  simp only at *
  have HL := Lib.hid (hr.gr (Gr.refl w).alloc (w' := w.alloc (.cells #[.int .i64 low, .slice ad l.length cap] 24)))
  clear hr
  by_cases c1 : low < 0
  · have HE : Hid (mayE ⟨low, l⟩ = 2) := by show _ = _; unfold mayE Wn.may; rw [if_neg]; simp; omega
    go_enter Try.func9, Try.ntmps9
    go_wp2
    go_ret
    exact ⟨by rw [HE.out]; rfl, (by repeat (first | exact Gr.refl _ | refine Gr.alloc ?_ | refine Gr.drew ?_ | refine Gr.trans ?_ (by assumption)))⟩
  · by_cases c2 : 1000000000 < low
    · have HE : Hid (mayE ⟨low, l⟩ = 2) := by show _ = _; unfold mayE Wn.may; rw [if_neg]; simp; omega
      go_enter Try.func9, Try.ntmps9
      go_wp2
      go_ret
      exact ⟨by rw [HE.out]; rfl, (by repeat (first | exact Gr.refl _ | refine Gr.alloc ?_ | refine Gr.drew ?_ | refine Gr.trans ?_ (by assumption)))⟩
    · have HE : Hid (mayE ⟨low, l⟩ = if Wn.rise (low + 1) (low + 16) l = true then 0 else 2) := by
        show _ = _
        unfold mayE Wn.may
        rw [decide_eq_true (show 0 ≤ (⟨low, l⟩ : Wd).low ∧ (⟨low, l⟩ : Wd).low ≤ 1000000000 from ⟨by show 0 ≤ low; omega, by show low ≤ _; omega⟩), Bool.true_and]
      go_enter Try.func9, Try.ntmps9
      go_wp2
      go_loop [3, 20] (fun t i => ∃ (k : Nat) (b : Int), k ≤ l.length ∧ i = .int .i64 k ∧ t = .int .i64 b ∧ Wn.rise (low + 1) (low + 16) l = Wn.rise b (low + 16) (l.drop k)) (fun _ i => l.length - (intOf i).toNat)
      case atStart => exact ⟨0, low + 1, by omega, rfl, by go_num, rfl⟩
      case round =>
        obtain ⟨k, b, hk, rfl, rfl, he⟩ := hrel
        by_cases hlt : k < l.length
        · obtain ⟨x, off, rfl, hbl, hc⟩ := HL.out k hlt
          rw [rise_at hlt] at he
          have HR := Lib.hid he
          clear he
          generalize l[k] = n at *
          by_cases c3 : n ≤ b
          · have HF : Hid (mayE ⟨low, l⟩ = 2) := by
              show _ = _
              rw [HE.out, HR.out, decide_eq_false (by omega)]; rfl
            go_wp2
            go_ret
            exact ⟨by rw [HF.out]; rfl, (by repeat (first | exact Gr.refl _ | refine Gr.alloc ?_ | refine Gr.drew ?_ | refine Gr.trans ?_ (by assumption)))⟩
          · by_cases c4 : low + 16 < n
            · have HF : Hid (mayE ⟨low, l⟩ = 2) := by
                show _ = _
                rw [HE.out, HR.out, decide_eq_false (show ¬ (n ≤ low + 16) by omega), Bool.and_false]; rfl
              go_wp2
              go_ret
              exact ⟨by rw [HF.out]; rfl, (by repeat (first | exact Gr.refl _ | refine Gr.alloc ?_ | refine Gr.drew ?_ | refine Gr.trans ?_ (by assumption)))⟩
            · go_wp2
              go_round
              case rel => exact ⟨k + 1, n, by omega, by go_num, rfl, by rw [HR.out, decide_eq_true (by omega), decide_eq_true (by omega)]; rfl⟩
              case measure => simp [intOf]; omega
        · have HF : Hid (mayE ⟨low, l⟩ = 0) := by
            show _ = _
            rw [HE.out, he, List.drop_eq_nil_of_le (by omega)]; rfl
          clear he
          go_wp2
          go_ret
          exact ⟨by rw [HF.out]; rfl, (by repeat (first | exact Gr.refl _ | refine Gr.alloc ?_ | refine Gr.drew ?_ | refine Gr.trans ?_ (by assumption)))⟩
set_option maxHeartbeats 4000000 in
set_option maxRecDepth 100000 in
theorem rmay_any (W : Wd) (ad : Option Addr) (cap : Nat) (w : World) (h : WdAt w ad cap W) :
    Calls Try.prog 10 #[wdV W.low ad W.seen.length cap] w fun e w' => e = .returned (.int .i64 (mayE W)) ∧ Gr w w' := by
  obtain ⟨low, l⟩ := W
  obtain ⟨hr, hcap, hcm, hnon, h0, h1⟩ := h
  simp only at *
  have HL := Lib.hid (hr.gr (Gr.refl w).alloc (w' := w.alloc (.cells #[.int .i64 low, .slice ad l.length cap] 24)))
  clear hr
  by_cases c1 : low < 0
  · have HE : Hid (mayE ⟨low, l⟩ = 2) := by show _ = _; unfold mayE Wn.may; rw [if_neg]; simp; omega
    go_enter Try.func10, Try.ntmps10
    go_wp2
    go_ret
    exact ⟨by rw [HE.out]; rfl, (by repeat (first | exact Gr.refl _ | refine Gr.alloc ?_ | refine Gr.drew ?_ | refine Gr.trans ?_ (by assumption)))⟩
  · by_cases c2 : 1000000000 < low
    · have HE : Hid (mayE ⟨low, l⟩ = 2) := by show _ = _; unfold mayE Wn.may; rw [if_neg]; simp; omega
      go_enter Try.func10, Try.ntmps10
      go_wp2
      go_ret
      exact ⟨by rw [HE.out]; rfl, (by repeat (first | exact Gr.refl _ | refine Gr.alloc ?_ | refine Gr.drew ?_ | refine Gr.trans ?_ (by assumption)))⟩
    · have HE : Hid (mayE ⟨low, l⟩ = if Wn.rise (low + 1) (low + 16) l = true then 0 else 2) := by
        show _ = _
        unfold mayE Wn.may
        rw [decide_eq_true (show 0 ≤ (⟨low, l⟩ : Wd).low ∧ (⟨low, l⟩ : Wd).low ≤ 1000000000 from ⟨by show 0 ≤ low; omega, by show low ≤ _; omega⟩), Bool.true_and]
      go_enter Try.func10, Try.ntmps10
      go_wp2
      go_loop [3] (fun i => ∃ (k : Nat) (b : Int), k ≤ l.length ∧ i = .int .i64 k ∧ low + 1 ≤ b ∧ (k = 0 → b = low + 1) ∧ (∀ j (hj : j < l.length), k = j + 1 → b = l[j]) ∧ Wn.rise (low + 1) (low + 16) l = Wn.rise b (low + 16) (l.drop k)) (fun i => l.length - (intOf i).toNat)
      case atStart => exact ⟨0, low + 1, by omega, rfl, by omega, fun _ => rfl, fun _ _ e => by omega, rfl⟩
      case round =>
        obtain ⟨k, b, hk, rfl, hb, hb0, hb1, he⟩ := hrel
        by_cases hlt : k < l.length
        · obtain ⟨x, off, rfl, hbl, hc⟩ := HL.out k hlt
          rw [rise_at hlt] at he
          have HR := Lib.hid he
          have HN : Hid (∀ n, n = l[k] → ∀ j (hj : j < l.length), k + 1 = j + 1 → n = l[j]) := fun n hn j hj e => by
            obtain rfl : k = j := by omega
            exact hn
          have HX : Hid (l[k] = l[k]) := rfl
          clear he
          generalize hn : l[k] = n at *
          have HN' := Lib.hid (HN.out n rfl)
          clear HN HX
          by_cases c3 : n ≤ low + 1
          · have HF : Hid (mayE ⟨low, l⟩ = 2) := by
              show _ = _
              rw [HE.out, HR.out, decide_eq_false (by omega)]; rfl
            clear hb0 hb1 hn
            go_wp2
            go_ret
            exact ⟨by rw [HF.out]; rfl, (by repeat (first | exact Gr.refl _ | refine Gr.alloc ?_ | refine Gr.drew ?_ | refine Gr.trans ?_ (by assumption)))⟩
          · by_cases c4 : low + 16 < n
            · have HF : Hid (mayE ⟨low, l⟩ = 2) := by
                show _ = _
                rw [HE.out, HR.out, decide_eq_false (show ¬ (n ≤ low + 16) by omega), Bool.and_false]; rfl
              clear hb0 hb1 hn
              go_wp2
              go_ret
              exact ⟨by rw [HF.out]; rfl, (by repeat (first | exact Gr.refl _ | refine Gr.alloc ?_ | refine Gr.drew ?_ | refine Gr.trans ?_ (by assumption)))⟩
            · cases k with
              | zero =>
                have hbb := hb0 rfl
                rw [Nat.add_zero] at hc
                clear hb0 hb1 hn
                go_wp2
                go_round
                case rel => exact ⟨1, n, by omega, by go_num, by omega, fun e => by omega, fun j hj e => HN'.out j hj e, by rw [HR.out, decide_eq_true (by omega), decide_eq_true (by omega)]; rfl⟩
                case measure => simp [intOf]; omega
              | succ k =>
                have hbb := hb1 k (by omega) rfl
                obtain ⟨x2, off2, e2, hbl2, hc2⟩ := HL.out k (by omega)
                cases e2
                rw [← hbb] at hc2
                have hk1 : (0 : Int) < ((k + 1 : Nat) : Int) := by omega
                have hk2 : ((k + 1 : Nat) : Int) - 1 = (k : Int) := by omega
                have hk3 : (k : Int) < (l.length : Int) := by omega
                clear hb0 hb1 hn hbb
                by_cases c5 : n ≤ b
                · have HF : Hid (mayE ⟨low, l⟩ = 2) := by
                    show _ = _
                    rw [HE.out, HR.out, decide_eq_false (by omega)]; rfl
                  go_wp2
                  go_ret
                  exact ⟨by rw [HF.out]; rfl, (by repeat (first | exact Gr.refl _ | refine Gr.alloc ?_ | refine Gr.drew ?_ | refine Gr.trans ?_ (by assumption)))⟩
                · go_wp2
                  go_round
                  case rel => exact ⟨k + 1 + 1, n, by omega, by go_num, by omega, fun e => by omega, fun j hj e => HN'.out j hj e, by rw [HR.out, decide_eq_true (by omega), decide_eq_true (by omega)]; rfl⟩
                  case measure => simp [intOf]; omega
        · have HF : Hid (mayE ⟨low, l⟩ = 0) := by
            show _ = _
            rw [HE.out, he, List.drop_eq_nil_of_le (by omega)]; rfl
          clear he hb0 hb1
          go_wp2
          go_ret
          exact ⟨by rw [HF.out]; rfl, (by repeat (first | exact Gr.refl _ | refine Gr.alloc ?_ | refine Gr.drew ?_ | refine Gr.trans ?_ (by assumption)))⟩
set_option maxHeartbeats 4000000 in
set_option maxRecDepth 100000 in
theorem rhas_any (W : Wd) (n : Int) (ad : Option Addr) (cap : Nat) (w : World) (h : WdAt w ad cap W) :
    Calls Try.prog 20 #[wdV W.low ad W.seen.length cap, .int .i64 n] w fun e w' => e = .returned (.bool (Wn.has W n)) ∧ Gr w w' := by
  obtain ⟨low, l⟩ := W
  obtain ⟨hr, hcap, hcm, hnon, h0, h1⟩ := h
  simp only at *
  have HL := Lib.hid (hr.gr (Gr.refl w).alloc (w' := w.alloc (.cells #[.int .i64 low, .slice ad l.length cap] 24)))
  clear hr
  go_enter Try.func20, Try.ntmps20
  go_wp2
  go_loop [5] (fun i => ∃ (k : Nat), k ≤ l.length ∧ i = .int .i64 k ∧ ∀ j (hj : j < l.length), j < k → l[j] ≠ n) (fun i => l.length - (intOf i).toNat)
  case atStart => exact ⟨0, by omega, rfl, fun j _ h => by omega⟩
  case round =>
    obtain ⟨k, hk, rfl, hno⟩ := hrel
    by_cases hlt : k < l.length
    · obtain ⟨x, off, rfl, hbl, hc⟩ := HL.out k hlt
      by_cases c : l[k] = n
      · have HF : Hid (Wn.has ⟨low, l⟩ n = true) := (Wn.has_iff _ _).2 (Or.inl (by rw [← c]; exact List.getElem_mem hlt))
        rw [c] at hc
        clear c hno
        go_wp2
        go_ret
        exact ⟨by rw [HF.out]; rfl, (by repeat (first | exact Gr.refl _ | refine Gr.alloc ?_ | refine Gr.drew ?_ | refine Gr.trans ?_ (by assumption)))⟩
      · have HN : Hid (∀ j (hj : j < l.length), j < k + 1 → l[j] ≠ n) := fun j hj h => by
          by_cases e : j = k
          · subst e; exact c
          · exact hno j hj (by omega)
        generalize l[k] = y at *
        clear hno
        go_wp2
        go_round
        case rel => exact ⟨k + 1, by omega, by go_num, HN.out⟩
        case measure => simp [intOf]; omega
    · have hnot : n ∉ l := fun hm => by
        obtain ⟨j, hj, e⟩ := List.getElem_of_mem hm
        exact hno j hj (by omega) e
      by_cases c1 : 1 ≤ n
      · by_cases c2 : n ≤ low
        · have HF : Hid (Wn.has ⟨low, l⟩ n = true) := (Wn.has_iff _ _).2 (Or.inr ⟨c1, c2⟩)
          clear hno hnot
          go_wp2
          go_ret
          exact ⟨by rw [HF.out]; rfl, (by repeat (first | exact Gr.refl _ | refine Gr.alloc ?_ | refine Gr.drew ?_ | refine Gr.trans ?_ (by assumption)))⟩
        · have HF : Hid (Wn.has ⟨low, l⟩ n = false) := by
            show _ = _
            unfold Wn.has
            rw [decide_eq_false hnot, decide_eq_false (by show ¬ (1 ≤ n ∧ n ≤ low); omega)]; rfl
          clear hno hnot
          go_wp2
          go_ret
          exact ⟨by rw [HF.out]; rfl, (by repeat (first | exact Gr.refl _ | refine Gr.alloc ?_ | refine Gr.drew ?_ | refine Gr.trans ?_ (by assumption)))⟩
      · have HF : Hid (Wn.has ⟨low, l⟩ n = false) := by
          show _ = _
          unfold Wn.has
          rw [decide_eq_false hnot, decide_eq_false (by show ¬ (1 ≤ n ∧ n ≤ low); omega)]; rfl
        clear hno hnot
        go_wp2
        go_ret
        exact ⟨by rw [HF.out]; rfl, (by repeat (first | exact Gr.refl _ | refine Gr.alloc ?_ | refine Gr.drew ?_ | refine Gr.trans ?_ (by assumption)))⟩
set_option maxHeartbeats 1000000 in
set_option maxRecDepth 100000 in
theorem nums_any (L : List Int) (a1 a2 : Option Addr) (c1 c2 : Nat) (w : World) (hn : L.length ≤ 9223372036854775807) (h1 : IntsAt w a1 L) (h2 : IntsAt w a2 L) :
    Calls Try.prog 12 #[.slice a1 L.length c1, .slice a2 L.length c2] w fun e w' => e = .returned (.bool true) ∧ Gr w w' := by
  have H1 := Lib.hid h1
  have H2 := Lib.hid h2
  clear h1 h2
  go_enter Try.func12, Try.ntmps12
  go_wp2
  go_loopw [5] (fun i wr => ∃ k : Nat, k ≤ L.length ∧ i = .int .i64 k ∧ Gr w wr) (fun i _ => L.length - (intOf i).toNat)
  case atStart => exact ⟨0, by omega, rfl, Gr.refl _⟩
  case round =>
    obtain ⟨k, hk, rfl, hg⟩ := hrel
    by_cases hlt : k < L.length
    · obtain ⟨b, off, rfl, hbl, hc⟩ := H1.out k hlt
      obtain ⟨b2, off2, rfl, hbl2, hc2⟩ := H2.out k hlt
      have hc' : wr.cell? ⟨b, off + k, none⟩ = some (.int .i64 L[k]) := hg.keep hc
      have hc2' : wr.cell? ⟨b2, off2 + k, none⟩ = some (.int .i64 L[k]) := hg.keep hc2
      have hb1 : (0 : Int) ≤ (k : Int) := by omega
      have hb2 : (k : Int) < (L.length : Int) := by omega
      clear hc hc2
      generalize L[k] = x at *
      go_wp2_with fail
      go_quiet (fail)
      go_wp2
      go_roundw
      case rel => exact ⟨k + 1, by omega, by go_num, hg.dn _⟩
      case measure => simp [intOf]; omega
    · go_wp2
      go_ret
      exact ⟨rfl, hg⟩
set_option maxHeartbeats 4000000 in
set_option maxRecDepth 100000 in
theorem rsame_any (W : Wd) (a1 a2 : Option Addr) (c1 c2 : Nat) (w : World) (h1 : WdAt w a1 c1 W) (h2 : WdAt w a2 c2 W) :
    Calls Try.prog 11 #[wdV W.low a1 W.seen.length c1, wdV W.low a2 W.seen.length c2] w fun e w' => e = .returned (.bool true) ∧ Gr w w' := by
  obtain ⟨low, l⟩ := W
  obtain ⟨hr1, hcap1, hcm1, hnon1, h01, h11⟩ := h1
  obtain ⟨hr2, hcap2, hcm2, hnon2, h02, h12⟩ := h2
  simp only at *
  have hgr : Gr w ((w.alloc (.cells #[.int .i64 low, .slice a1 l.length c1] 24)).alloc (.cells #[.int .i64 low, .slice a2 l.length c2] 24)) := (Gr.refl w).alloc.alloc
  have H1 := Lib.hid (hr1.gr hgr)
  have H2 := Lib.hid (hr2.gr hgr)
  have HG := Lib.hid hgr
  clear hr1 hr2 hgr
  go_enter Try.func11, Try.ntmps11
  go_wp2
  generalize hW : (w.alloc (.cells #[.int .i64 low, .slice a1 l.length c1] 24)).alloc (.cells #[.int .i64 low, .slice a2 l.length c2] 24) = w0 at *
  have k0 : w0.cell? ⟨w.heap.size, 0, none⟩ = some (.int .i64 low) := by rw [← hW]; simp
  have k1 : w0.cell? ⟨w.heap.size, 1, none⟩ = some (.slice a1 l.length c1) := by rw [← hW]; simp
  have k2 : w0.cell? ⟨w.heap.size + 1, 1, none⟩ = some (.slice a2 l.length c2) := by rw [← hW]; simp
  clear hW
  go_loopw [5] (fun i wr => ∃ k : Nat, k ≤ l.length ∧ i = .int .i64 k ∧ Gr w0 wr) (fun i _ => l.length - (intOf i).toNat)
  case atStart => exact ⟨0, by omega, rfl, Gr.refl _⟩
  case round =>
    obtain ⟨k, hk, rfl, hg⟩ := hrel
    have k1' := hg.keep k1
    have k2' := hg.keep k2
    by_cases hlt : k < l.length
    · obtain ⟨b, off, rfl, hbl, hc⟩ := H1.out k hlt
      obtain ⟨b2, off2, rfl, hbl2, hc2⟩ := H2.out k hlt
      have hc' : wr.cell? ⟨b, off + k, none⟩ = some (.int .i64 l[k]) := hg.keep hc
      have hc2' : wr.cell? ⟨b2, off2 + k, none⟩ = some (.int .i64 l[k]) := hg.keep hc2
      have hb1 : (0 : Int) ≤ (k : Int) := by omega
      have hb2 : (k : Int) < (l.length : Int) := by omega
      clear hc hc2 k0 k1 k2
      generalize l[k] = x at *
      go_wp2_with fail
      go_quiet (fail)
      go_wp2
      go_roundw
      case rel => exact ⟨k + 1, by omega, by go_num, hg.dn _⟩
      case measure => simp [intOf]; omega
    · go_wp2
      go_ret
      exact ⟨rfl, HG.out.trans hg⟩
end Go.Proofs.Ytdgjgpcfpkpnlaa
