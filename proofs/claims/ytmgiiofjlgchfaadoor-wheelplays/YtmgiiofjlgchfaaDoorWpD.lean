
/- The document's wheel: Tick and Skip. -/
import Derived.Test.YtmgiiofjlgchfaaDoorWpC
namespace Go.Proofs.YtmgiiofjlgchfaaDoor
open Go.RowKit Go.Maps Go.Sort
open Wh (Tm Sl ks hasK atK del ins put dig whl Inv tlt Up trn upto past)

/- what Tick and Skip answer: the first so many, out of the old row -/
def RfC (w w' : World) (r x : Nat) (L : List Tm) (o : Option Addr) (v : Value) : Prop :=
  (∃ ad cap, v = .slice ad (upto L x).length cap ∧ RowAt tmf w' ad (upto L x)) ∧ RfR w w' r x (past L x) o
theorem RfC.stay {w : World} {r t : Nat} {ad : Option Addr} {cap : Nat} {L : List Tm} (h : RfAt w r t ad cap L) (hk : Wh.Ok t L) : RfC w w r t L ad (.slice none 0 0) := by
  unfold RfC
  rw [Wh.upto_now hk, Wh.past_now hk]
  exact ⟨⟨none, 0, rfl, RowAt.nil⟩, ad, cap, h, ⟨rfl, rfl, rfl, Nat.le_refl _, fun _ _ _ => rfl⟩, fun a e => Or.inl ⟨a, e, rfl⟩⟩
theorem high_nil {ad : Option Addr} {cap c : Nat} (h : ad = none → cap = 0) : highAd ad cap c = none → cap - c = 0 := by
  unfold highAd
  split
  · intro e; rw [h e]; omega
  · cases ad with
    | none => intro _; rw [h rfl]; omega
    | some a => intro e; cases e
theorem high_block {ad : Option Addr} {cap c : Nat} {a : Addr} (h : highAd ad cap c = some a) : ∃ a0, ad = some a0 ∧ a0.block = a.block := by
  unfold highAd at h
  split at h
  · exact ⟨a, h, rfl⟩
  · cases ad with
    | none => cases h
    | some a0 => cases h; exact ⟨a0, rfl, by cases a0; simp only [Addr.add]; split <;> rfl⟩
theorem row_set {w : World} {ad : Option Addr} {L : List Tm} (h : RowAt tmf w ad L) {r : Nat} (ho : ∀ a, ad = some a → a.block ≠ r) (i : Nat) (u : Value) : RowAt tmf (w.setCell ⟨r, i, none⟩ u) ad L := by
  intro j u hu
  obtain ⟨b, off, q1, q2, q3⟩ := h j u hu
  exact ⟨b, off, q1, by simpa using q2, (World.cell?_of_block (a := ⟨b, off + j, none⟩) (heap_set_ne _ ⟨r, _, none⟩ _ _ (ho ⟨b, off, none⟩ q1))).trans q3⟩
/- the row is cut -/
theorem RfAt.cutRow {wr : World} {r t : Nat} {ad : Option Addr} {cap : Nat} {L A D : List Tm} (h : RfAt wr r t ad cap L) (e : A ++ D = L) :
    RfAt (wr.setCell ⟨r, 1, none⟩ (.slice (highAd ad cap A.length) D.length (cap - A.length))) r t (highAd ad cap A.length) (cap - A.length) D ∧ RowAt tmf (wr.setCell ⟨r, 1, none⟩ (.slice (highAd ad cap A.length) D.length (cap - A.length))) ad A := by
  have hl : A.length + D.length = L.length := by rw [← e, List.length_append]
  have hle := h.le
  have hcp := h.cp
  have e1 : L.take A.length = A := by rw [← e]; simp
  have e2 : L.drop A.length = D := by rw [← e]; simp
  have r1 := row_take tmf_len h.row A.length (by omega)
  have r2 := row_high h.row cap A.length h.le
  rw [e1] at r1
  rw [e2] at r2
  exact ⟨h.setLst r2 (by omega) (by omega) (high_nil h.nil) (fun a ea => by
    obtain ⟨a0, q1, q2⟩ := high_block ea
    have := h.off a0 q1
    rw [← q2]; exact this), row_set r1 (fun a ea => (h.off a ea).1) _ _⟩
/- the time stands, the row is cut -/
theorem RfAt.cut {w wr : World} {r x : Nat} {ad : Option Addr} {cap : Nat} {L A D : List Tm} (h : RfAt wr r x ad cap L) (g : w.grownBy wr (some r)) (eA : A = upto L x) (eD : D = past L x) (e : A ++ D = L) :
    RfC w (wr.setCell ⟨r, 1, none⟩ (.slice (highAd ad cap A.length) D.length (cap - A.length))) r x L ad (.slice ad A.length cap) := by
  obtain ⟨h1, h2⟩ := h.cutRow e
  unfold RfC
  rw [← eA, ← eD]
  exact ⟨⟨ad, cap, rfl, h2⟩, _, _, h1, grown_set g _ _, fun a ea => Or.inl (high_block ea)⟩
/- the row is cut, then the time is set -/
theorem RfAt.cut2 {w wr : World} {r t x : Nat} {ad : Option Addr} {cap : Nat} {L A D : List Tm} (h : RfAt wr r t ad cap L) (g : w.grownBy wr (some r)) (eA : A = upto L x) (eD : D = past L x) (e : A ++ D = L) :
    RfC w ((wr.setCell ⟨r, 1, none⟩ (.slice (highAd ad cap A.length) D.length (cap - A.length))).setCell ⟨r, 0, none⟩ (.int .i64 (x : Int))) r x L ad (.slice ad A.length cap) := by
  obtain ⟨h1, h2⟩ := h.cutRow e
  unfold RfC
  rw [← eA, ← eD]
  exact ⟨⟨ad, cap, rfl, row_set h2 (fun a ea => (h.off a ea).1) _ _⟩, _, _, h1.setNow x, grown_set (grown_set g _ _) _ _, fun a ea => Or.inl (high_block ea)⟩
set_option maxHeartbeats 4000000 in
set_option maxRecDepth 100000 in
theorem rtick_any {w : World} {r t x : Nat} {ad : Option Addr} {cap : Nat} {L : List Tm} (h : RfAt w r t ad cap L) (hk : Wh.Ok t L) (ht : t < 1000000000) (hx : x = t + 1) :
    Calls Tryd.prog 18 #[ptr r] w fun e w' => ∃ v, e = .returned v ∧ RfC w w' r x L ad v := by
  have hc0 := h.now
  have hf0 := h.f0
  have hrl := h.lt
  have hne : ((t : Int) == 1000000000) = false := by simp; omega
  have hxi : (t : Int) + 1 = (x : Int) := by omega
  have H1 := Lib.hid (h.setNow x)
  have HG0 : Hid (w.grownBy (w.setCell ⟨r, 0, none⟩ (.int .i64 (x : Int))) (some r)) := grown_set ⟨rfl, rfl, rfl, Nat.le_refl _, fun _ _ _ => rfl⟩ _ _
  obtain ⟨q1, q2⟩ := upto_tw hk.up x
  have HJ : Hid (∀ j (h2 : j < L.length), j < (upto L x).length → ((L[j].2 : Int) == (x : Int)) = true) := fun j h2 hj => by
    rw [q1] at hj
    have h3 := tw_lt hj h2
    have h4 := (hk.ahead L[j] (List.getElem_mem h2)).1
    have h5 : L[j].2 ≤ x := by simpa using h3
    simp; omega
  have HJ2 : Hid (∀ (h2 : (upto L x).length < L.length), ((L[(upto L x).length].2 : Int) == (x : Int)) = false) := fun h2 => by
    have h3 : ¬ L[(upto L x).length].2 ≤ x := by
      simp only [q1]
      rw [q1] at h2
      have := tw_at h2
      simpa using this
    simp; omega
  have HAD : Hid (upto L x ++ past L x = L) := Wh.upto_past hk.up x
  obtain ⟨A, eA⟩ : ∃ A, A = upto L x := ⟨_, rfl⟩
  obtain ⟨D, eD⟩ : ∃ D, D = past L x := ⟨_, rfl⟩
  have HeA := Lib.hid eA
  have HeD := Lib.hid eD
  rw [← eA] at HJ HJ2 HAD
  rw [← eD] at HAD
  have hAD : A.length + D.length = L.length := by rw [← HAD.out, List.length_append]
  have hle := h.le
  have hcp := h.cp
  have hS1 := slice_low ad L.length cap A.length (by omega) hle
  have hS2 : ∀ W, (Instr.sliceAt 36 (.slice ad L.length cap) (some (.int .i64 A.length)) none none).run Tryd.prog W = .ok (.slice (highAd ad cap A.length) D.length (cap - A.length)) W := fun W => by
    rw [slice_high ad L.length cap A.length (by omega) W, show L.length - A.length = D.length by omega]
  have h63 : L.length ≤ 9223372036854775807 := by omega
  clear h q1 q2 eA eD hx hk
  go_enter Tryd.func18, Tryd.ntmps18
  go_wp2
  obtain ⟨w1, hw1⟩ : ∃ w1, w1 = w.setCell ⟨r, 0, none⟩ (.int .i64 (x : Int)) := ⟨_, rfl⟩
  rw [← hw1] at H1 HG0 ⊢
  clear hw1 hc0 hf0 hrl hxi
  go_loopw [3] (fun i wr => ∃ (j : Nat), j ≤ A.length ∧ i = .int .i64 (j : Int) ∧ Gr w1 wr) (fun i _ => L.length - (intOf i).toNat)
  case atStart => exact ⟨0, Nat.zero_le _, rfl, Gr.refl _⟩
  case round =>
    obtain ⟨j, hj, rfl, hg⟩ := hrel
    have HG : Hid (Gr w1 wr) := hg
    have H2 := Lib.hid (H1.out.gr hg)
    have hc0 := H2.out.now
    have hc1 := H2.out.lst
    clear hg
    by_cases hja : j < A.length
    · have hlt : j < L.length := by omega
      obtain ⟨b, off, hadq, hb, d0, d1⟩ := tm_at H2.out.row j hlt
      have hd := HJ.out j hlt hja
      have hlti : (j : Int) < (L.length : Int) := by omega
      subst hadq
      generalize L[j].2 = y at *
      clear d0 hS1 hS2 hAD hle hcp
      go_wp2
      go_quiet (fail)
      go_wp2
      go_roundw
      case rel => exact ⟨j + 1, by omega, by simp, HG.out.drewN _⟩
      case measure => simp [intOf]; omega
    · obtain rfl : j = A.length := by omega
      have hf1 := H2.out.f1
      have hrl := H2.out.lt
      have HF : Hid (∀ n, RfC w ((wr.drewN n).setCell ⟨r, 1, none⟩ (.slice (highAd ad cap A.length) D.length (cap - A.length))) r x L ad (.slice ad A.length cap)) := fun n => by
        refine RfAt.cut (H2.out.gr ((Gr.refl wr).drewN n)) ?_ HeA.out HeD.out HAD.out
        have g2 := HG.out.drewN n
        exact ⟨g2.below.os.trans HG0.out.os, g2.below.tape.trans HG0.out.tape, g2.below.output.trans HG0.out.output, Nat.le_trans HG0.out.size g2.size, fun k hk hne => by rw [g2.below.block k (Nat.lt_of_lt_of_le hk HG0.out.size)]; exact HG0.out.block k hk hne⟩
      by_cases hlt : A.length < L.length
      · obtain ⟨b, off, hadq, hb, d0, d1⟩ := tm_at H2.out.row A.length hlt
        have hd := HJ2.out hlt
        have hlti : (A.length : Int) < (L.length : Int) := by omega
        subst hadq
        generalize L[A.length].2 = y at *
        clear d0 hAD hle hcp
        go_wp2
        go_quiet (fail)
        go_wp2
        go_ret
        exact ⟨_, rfl, HF.out _⟩
      · have hlti : ¬ (A.length : Int) < (L.length : Int) := by omega
        clear hAD hle hcp
        go_wp2
        go_quiet (fail)
        go_wp2
        go_ret
        exact ⟨_, rfl, HF.out _⟩

set_option maxHeartbeats 4000000 in
set_option maxRecDepth 100000 in
theorem rskip_any {w : World} {r t x n : Nat} {ad : Option Addr} {cap : Nat} {L : List Tm} (h : RfAt w r t ad cap L) (hk : Wh.Ok t L) (hn : n ≤ 100000) (hx : x = min (t + n) 1000000000) :
    Calls Tryd.prog 20 #[ptr r, .int .i64 (n : Int)] w fun e w' => ∃ v, e = .returned (.tuple #[v, .int .i64 0]) ∧ RfC w w' r x L ad v := by
  have hn0 : ¬ (n : Int) < 0 := by omega
  have hn1 : ¬ (100000 : Int) < (n : Int) := by omega
  obtain ⟨y0, hy0⟩ : ∃ y0 : Nat, y0 = t + n := ⟨_, rfl⟩
  have hsum : (t : Int) + (n : Int) = (y0 : Int) := by omega
  have hyb : y0 ≤ 1000100000 := by have := hk.time; omega
  have hxy : x = min y0 1000000000 := by rw [hy0]; exact hx
  have HH : Hid (RfAt w r t ad cap L) := h
  have hc0 := h.now
  obtain ⟨q1, q2⟩ := upto_tw hk.up x
  have HJ : Hid (∀ j (h2 : j < L.length), j < (upto L x).length → (L[j].2 : Int) ≤ (x : Int)) := fun j h2 hj => by
    rw [q1] at hj
    have h3 := tw_lt hj h2
    have h5 : L[j].2 ≤ x := by simpa using h3
    omega
  have HJ2 : Hid (∀ (h2 : (upto L x).length < L.length), ¬ (L[(upto L x).length].2 : Int) ≤ (x : Int)) := fun h2 => by
    have h3 : ¬ L[(upto L x).length].2 ≤ x := by
      simp only [q1]
      rw [q1] at h2
      have := tw_at h2
      simpa using this
    omega
  have HAD : Hid (upto L x ++ past L x = L) := Wh.upto_past hk.up x
  obtain ⟨A, eA⟩ : ∃ A, A = upto L x := ⟨_, rfl⟩
  obtain ⟨D, eD⟩ : ∃ D, D = past L x := ⟨_, rfl⟩
  have HeA := Lib.hid eA
  have HeD := Lib.hid eD
  rw [← eA] at HJ HJ2 HAD
  rw [← eD] at HAD
  have hAD : A.length + D.length = L.length := by rw [← HAD.out, List.length_append]
  have hle := h.le
  have hcp := h.cp
  have hS1 := slice_low ad L.length cap A.length (by omega) hle
  have hS2 : ∀ W, (Instr.sliceAt 36 (.slice ad L.length cap) (some (.int .i64 A.length)) none none).run Tryd.prog W = .ok (.slice (highAd ad cap A.length) D.length (cap - A.length)) W := fun W => by
    rw [slice_high ad L.length cap A.length (by omega) W, show L.length - A.length = D.length by omega]
  have h63 : L.length ≤ 9223372036854775807 := by omega
  clear h q1 q2 eA eD hx hk hy0
  by_cases hbig : 1000000000 < y0
  · have hbi : (1000000000 : Int) < (y0 : Int) := by omega
    obtain rfl : x = 1000000000 := by omega
    clear hxy
    go_enter Tryd.func20, Tryd.ntmps20
    go_wp2
    go_loopw [7] (fun i wr => ∃ (j : Nat), j ≤ A.length ∧ i = .int .i64 (j : Int) ∧ Gr w wr) (fun i _ => L.length - (intOf i).toNat)
    case atStart => exact ⟨0, Nat.zero_le _, rfl, Gr.refl _⟩
    case round =>
      obtain ⟨j, hj, rfl, hg⟩ := hrel
      have HG : Hid (Gr w wr) := hg
      have H2 := Lib.hid (HH.out.gr hg)
      have hc0 := H2.out.now
      have hc1 := H2.out.lst
      clear hg
      by_cases hja : j < A.length
      · have hlt : j < L.length := by omega
        obtain ⟨b, off, hadq, hb, d0, d1⟩ := tm_at H2.out.row j hlt
        have hd := HJ.out j hlt hja
        have hlti : (j : Int) < (L.length : Int) := by omega
        subst hadq
        generalize L[j].2 = y at *
        clear d0 hS1 hS2 hAD hle hcp
        go_wp2
        go_roundw
        case rel => exact ⟨j + 1, by omega, by simp, HG.out⟩
        case measure => simp [intOf]; omega
      · obtain rfl : j = A.length := by omega
        have hf1 := H2.out.f1
        have hf0 := H2.out.f0
        have hrl := H2.out.lt
        have HF : Hid (RfC w ((wr.setCell ⟨r, 1, none⟩ (.slice (highAd ad cap A.length) D.length (cap - A.length))).setCell ⟨r, 0, none⟩ (.int .i64 ((1000000000 : Nat) : Int))) r 1000000000 L ad (.slice ad A.length cap)) := H2.out.cut2 (HG.out.grownR r) HeA.out HeD.out HAD.out
        by_cases hlt : A.length < L.length
        · obtain ⟨b, off, hadq, hb, d0, d1⟩ := tm_at H2.out.row A.length hlt
          have hd := HJ2.out hlt
          have hlti : (A.length : Int) < (L.length : Int) := by omega
          subst hadq
          generalize L[A.length].2 = y at *
          clear d0 hAD hle hcp
          go_wp2
          go_ret2
          exact ⟨_, rfl, HF.out⟩
        · have hlti : ¬ (A.length : Int) < (L.length : Int) := by omega
          clear hAD hle hcp
          go_wp2
          go_ret2
          exact ⟨_, rfl, HF.out⟩
  · have hbi : ¬ (1000000000 : Int) < (y0 : Int) := by omega
    obtain rfl : x = y0 := by omega
    clear hxy
    go_enter Tryd.func20, Tryd.ntmps20
    go_wp2
    go_loopw [7] (fun i wr => ∃ (j : Nat), j ≤ A.length ∧ i = .int .i64 (j : Int) ∧ Gr w wr) (fun i _ => L.length - (intOf i).toNat)
    case atStart => exact ⟨0, Nat.zero_le _, rfl, Gr.refl _⟩
    case round =>
      obtain ⟨j, hj, rfl, hg⟩ := hrel
      have HG : Hid (Gr w wr) := hg
      have H2 := Lib.hid (HH.out.gr hg)
      have hc0 := H2.out.now
      have hc1 := H2.out.lst
      clear hg
      by_cases hja : j < A.length
      · have hlt : j < L.length := by omega
        obtain ⟨b, off, hadq, hb, d0, d1⟩ := tm_at H2.out.row j hlt
        have hd := HJ.out j hlt hja
        have hlti : (j : Int) < (L.length : Int) := by omega
        subst hadq
        generalize L[j].2 = y at *
        clear d0 hS1 hS2 hAD hle hcp
        go_wp2
        go_roundw
        case rel => exact ⟨j + 1, by omega, by simp, HG.out⟩
        case measure => simp [intOf]; omega
      · obtain rfl : j = A.length := by omega
        have hf1 := H2.out.f1
        have hf0 := H2.out.f0
        have hrl := H2.out.lt
        have HF : Hid (RfC w ((wr.setCell ⟨r, 1, none⟩ (.slice (highAd ad cap A.length) D.length (cap - A.length))).setCell ⟨r, 0, none⟩ (.int .i64 (x : Int))) r x L ad (.slice ad A.length cap)) := H2.out.cut2 (HG.out.grownR r) HeA.out HeD.out HAD.out
        by_cases hlt : A.length < L.length
        · obtain ⟨b, off, hadq, hb, d0, d1⟩ := tm_at H2.out.row A.length hlt
          have hd := HJ2.out hlt
          have hlti : (A.length : Int) < (L.length : Int) := by omega
          subst hadq
          generalize L[A.length].2 = y at *
          clear d0 hAD hle hcp
          go_wp2
          go_ret2
          exact ⟨_, rfl, HF.out⟩
        · have hlti : ¬ (A.length : Int) < (L.length : Int) := by omega
          clear hAD hle hcp
          go_wp2
          go_ret2
          exact ⟨_, rfl, HF.out⟩
end Go.Proofs.YtmgiiofjlgchfaaDoor
