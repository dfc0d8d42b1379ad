/- Parts of these proofs, laid together. -/
import Derived.Test.YtojmhhmpmpbpfaaGreatDoorGBC
import Derived.Test.YtojmhhmpmpbpfaaGreatDoorGS
import Derived.Test.YtojmhhmpmpbpfaaGreatDoorGI
import Derived.WalkMore
import Derived.Deep.DeepCutAuto
import Derived.Deep.QuietTactic
import Derived.BigQuiet
namespace Go.Proofs.YtojmhhmpmpbpfaaGreatDoor
open Go.RowKit
open Dk (Fl zf)

/- the numbers of the files below k, but of that at m -/
def dk (L : List Fl) (m : Int) : Nat → List Int
  | 0 => []
  | k + 1 => if (k : Int) = m then dk L m k else dk L m k ++ [(Sg.at' L k).n]
theorem dk_len (L : List Fl) (m : Int) : ∀ k, (dk L m k).length ≤ k
  | 0 => by simp [dk]
  | k + 1 => by
    have := dk_len L m k
    rw [dk]
    split
    · omega
    · rw [List.length_append, List.length_singleton]; omega
theorem dk_low (L : List Fl) (m : Int) : ∀ k, k ≤ L.length → (∀ j : Nat, j < k → (j : Int) ≠ m) → dk L m k = Sg.nums (L.take k)
  | 0, _, _ => by simp [dk, Sg.nums]
  | k + 1, h, hm => by
    rw [dk, if_neg (hm k (by omega)), dk_low L m k (by omega) (fun j hj => hm j (by omega)), Sg.at_eq L k (by omega)]
    unfold Sg.nums
    rw [List.take_succ_eq_append_getElem (show k < L.length by omega), List.map_append]
    rfl
theorem dk_high (L : List Fl) (p : Nat) : ∀ d, p + 1 + d ≤ L.length → dk L (p : Int) (p + 1 + d) = Sg.nums (L.take p) ++ Sg.nums ((L.drop (p + 1)).take d)
  | 0, h => by
    rw [show p + 1 + 0 = p + 1 from rfl, dk, if_pos rfl, dk_low L p p (by omega) (fun j hj => by omega)]
    simp [Sg.nums]
  | d + 1, h => by
    rw [show p + 1 + (d + 1) = (p + 1 + d) + 1 from rfl, dk, if_neg (by omega), dk_high L p d (by omega), Sg.at_eq L (p + 1 + d) (by omega), List.append_assoc]
    congr 1
    unfold Sg.nums
    rw [List.take_succ_eq_append_getElem (show d < (L.drop (p + 1)).length by rw [List.length_drop]; omega), List.map_append, List.getElem_drop]
    rfl
theorem dk_none (L : List Fl) : dk L (-1) L.length = Sg.nums L := by
  rw [dk_low L (-1) L.length (Nat.le_refl _) (fun j hj => by omega), List.take_length]
theorem dk_all (L : List Fl) (p : Nat) (hp : p < L.length) : dk L (p : Int) L.length = Sg.drops L p := by
  have := dk_high L p (L.length - (p + 1)) (by omega)
  rw [show p + 1 + (L.length - (p + 1)) = L.length by omega] at this
  rw [this, show (L.drop (p + 1)).take (L.length - (p + 1)) = L.drop (p + 1) from List.take_of_length_le (by rw [List.length_drop]; omega)]
  rfl

theorem sg_set (w : World) (p : Addr) (u : Value) : w.grownBy (w.setCell p u) (some p.block) :=
  ⟨rfl, rfl, rfl, by simp [World.setCell], fun k _ hk => Below.heap_setCell _ _ _ _ (fun e => hk (by rw [e]))⟩
/- where the loop that lays the numbers stands -/
structure RgI (w wr : World) (B : Nat) (D : List Int) (v : Value) : Prop where
  rb : Bx4 wr w.heap.size (.int .i64 0) (.int .i64 0) (.slice none 0 0) (.slice none 0 0)
  ob : Bx4 wr B (.int .i64 (-1)) (.int .i64 0) (.slice none 0 0) v
  own : wr.ownsRow (B + 1) 3 1 v D.length (intV D)
  gr : Gr w wr
  lt : w.heap.size < B
theorem RgI.step {w wr w1 : World} {B : Nat} {D : List Int} {v v1 : Value} (h : RgI w wr B D v) {x : Int} {o : Obj} (ho : w1.ownsRow (B + 1) 3 1 v1 (D ++ [x]).length (intV (D ++ [x]))) (hg : (wr.drew.alloc o).grownBy w1 v.ownBlock) : RgI w (w1.setCell ⟨B, 3, none⟩ v1) B (D ++ [x]) v1 ∧ Bx4 w1 B (.int .i64 (-1)) (.int .i64 0) (.slice none 0 0) v := by
  have hne : ∀ i, i ≤ B → some i ≠ v.ownBlock := fun i hi e => by have := (h.own.lt _ e.symm).1; omega
  have g0 : Gr wr (wr.drew.alloc o) := (Gr.refl _).drew.alloc
  have b1 := (h.ob.gr g0).grown hg (hne B (Nat.le_refl _))
  have hlt := h.lt
  refine ⟨⟨((h.rb.gr g0).grown hg (hne _ (by omega))).far _ _ (by simp; omega), b1.s3 _, ?_, ?_, h.lt⟩, b1⟩
  · exact ho.kept (sg_set w1 ⟨B, 3, none⟩ v1) (Or.inr (fun e => by have h2 : B + 1 ≤ B := (ho.lt _ e).1; omega))
  · exact ((h.gr.trans g0).grown hg (fun q hq => by have := (h.own.lt q hq).1; omega)).set _ (by simp; omega) _
set_option maxHeartbeats 8000000 in
set_option maxRecDepth 100000 in
theorem rlook_rise (L : List Fl) (ad : Option Addr) (cap : Nat) (w : World) (hL : FsAt w ad cap L) (hr : Sg.rise L = false) :
    Calls Tryz.prog 34 #[.slice ad L.length cap] w fun e w' => LkR (Sg.bad 2) w e w' := by
  have HL := Lib.hid hL.row
  have HZ := Lib.hid hL.rng
  have hl := hL.len
  clear hL
  go_enter Tryz.func34, Tryz.ntmps34
  go_wp2
  go_loopw [4] (fun i wr => ∃ k : Nat, 1 ≤ k ∧ i = .int .i64 k ∧ (∀ j (h : j + 1 < L.length), j + 1 < k → (L[j]'(by omega)).n < L[j + 1].n) ∧ Gr w wr ∧ Bx4 wr w.heap.size (.int .i64 0) (.int .i64 0) (.slice none 0 0) (.slice none 0 0)) (fun i _ => L.length - (intOf i).toNat)
  case atStart => exact ⟨1, Nat.le_refl _, rfl, by intro j _ h; omega, (Gr.refl _).alloc, Bx4.new w (.int .i64 0) (.int .i64 0) (.slice none 0 0) (.slice none 0 0) 80 _ rfl⟩
  case round =>
    obtain ⟨k, hk, rfl, hup, hg, hbx⟩ := hrel
    have HU := Lib.hid hup
    have HG := Lib.hid hg
    have HB := Lib.hid hbx
    by_cases hlt : k < L.length
    · obtain ⟨p1, rfl⟩ : ∃ p1, k = p1 + 1 := ⟨k - 1, by omega⟩
      obtain ⟨b, off, rfl, hb, c0, _⟩ := fl_at HL.out p1 (by omega)
      obtain ⟨b', off', e', hb', d0, _⟩ := fl_at HL.out (p1 + 1) hlt
      cases e'
      have c0 := hg.keep c0
      have d0 := hg.keep d0
      have hki : ((p1 + 1 : Nat) : Int) < (L.length : Int) := by omega
      have hpi : ((p1 + 1 : Nat) : Int) - 1 = (p1 : Int) := by omega
      have hpl : (p1 : Int) < (L.length : Int) := by omega
      have HQ : Hid ((L[p1]'(by omega)).n < L[p1 + 1].n → ∀ j (h : j + 1 < L.length), j + 1 < p1 + 1 + 1 → (L[j]'(by omega)).n < L[j + 1].n) := by
        intro h j hj hjp
        by_cases e : j = p1
        · subst e; exact h
        · exact HU.out j hj (by omega)
      clear hup hg HU hbx
      generalize hx : (L[p1]'(by omega)).n = x at *
      generalize hy : L[p1 + 1].n = y at *
      by_cases hxy : y ≤ x
      · have d1 : decide (y ≤ x) = true := decide_eq_true hxy
        obtain ⟨x0, x1, x2, x3, f0, f1, f2, f3, hlx⟩ := HB.out
        go_wp2_with (go_quiet (fail))
        exact bodyPost_ret (v := .tuple #[.agg #[.int .i64 0, .int .i64 0, .slice none 0 0, .slice none 0 0], .int .i64 2]) (by simp [results, Tryz.results34, go_sem, x0, x1, x2, x3]) rfl
          ⟨none, 0, none, 0, rfl, fun j h => absurd h (by simp [Sg.bad]), fun j h => absurd h (by simp [Sg.bad]), gr_fill (HG.out.dn _) (Nat.le_refl _) _ _ _ _, fun _ e => (by cases e), fun _ e => (by cases e)⟩
      · have d1 : decide (y ≤ x) = false := decide_eq_false hxy
        have HQ2 := Lib.hid (HQ.out (by omega))
        go_wp2_with (go_quiet (fail))
        go_roundw
        case rel => exact ⟨p1 + 1 + 1, by omega, by go_num, HQ2.out, HG.out.dn _, HB.out.gr ((Gr.refl _).dn _)⟩
        case measure => simp [intOf]; omega
    · exfalso
      have : Sg.rise L = true := (Sg.rise_iff L).2 fun j hj => HU.out j hj (by omega)
      rw [hr] at this
      cases this
set_option maxHeartbeats 8000000 in
set_option maxRecDepth 100000 in
theorem rlook_bad (L : List Fl) (ad : Option Addr) (cap : Nat) (w : World) (hL : FsAt w ad cap L) (hr : Sg.rise L = true) (hw : Sg.lw L L.length = (-1, 170)) :
    Calls Tryz.prog 34 #[.slice ad L.length cap] w fun e w' => LkR (Sg.bad 170) w e w' := by
  have HL := Lib.hid hL.row
  have HZ := Lib.hid hL.rng
  have hl := hL.len
  clear hL
  go_enter Tryz.func34, Tryz.ntmps34
  go_wp2
  go_loopw [4] (fun i wr => ∃ k : Nat, 1 ≤ k ∧ i = .int .i64 k ∧ (∀ j (h : j + 1 < L.length), j + 1 < k → (L[j]'(by omega)).n < L[j + 1].n) ∧ Gr w wr ∧ Bx4 wr w.heap.size (.int .i64 0) (.int .i64 0) (.slice none 0 0) (.slice none 0 0)) (fun i _ => L.length - (intOf i).toNat)
  case atStart => exact ⟨1, Nat.le_refl _, rfl, by intro j _ h; omega, (Gr.refl _).alloc, Bx4.new w (.int .i64 0) (.int .i64 0) (.slice none 0 0) (.slice none 0 0) 80 _ rfl⟩
  case round =>
    obtain ⟨k, hk, rfl, hup, hg, hbx⟩ := hrel
    have HU := Lib.hid hup
    have HG := Lib.hid hg
    have HB := Lib.hid hbx
    by_cases hlt : k < L.length
    · obtain ⟨p1, rfl⟩ : ∃ p1, k = p1 + 1 := ⟨k - 1, by omega⟩
      obtain ⟨b, off, rfl, hb, c0, _⟩ := fl_at HL.out p1 (by omega)
      obtain ⟨b', off', e', hb', d0, _⟩ := fl_at HL.out (p1 + 1) hlt
      cases e'
      have c0 := hg.keep c0
      have d0 := hg.keep d0
      have hki : ((p1 + 1 : Nat) : Int) < (L.length : Int) := by omega
      have hpi : ((p1 + 1 : Nat) : Int) - 1 = (p1 : Int) := by omega
      have hpl : (p1 : Int) < (L.length : Int) := by omega
      have HQ : Hid ((L[p1]'(by omega)).n < L[p1 + 1].n → ∀ j (h : j + 1 < L.length), j + 1 < p1 + 1 + 1 → (L[j]'(by omega)).n < L[j + 1].n) := by
        intro h j hj hjp
        by_cases e : j = p1
        · subst e; exact h
        · exact HU.out j hj (by omega)
      have hxy := (Sg.rise_iff L).1 hr p1 hlt
      have HQ2 := Lib.hid (HQ.out hxy)
      clear hup hg HU hbx
      generalize hx : (L[p1]'(by omega)).n = x at *
      generalize hy : L[p1 + 1].n = y at *
      have d1 : decide (y ≤ x) = false := decide_eq_false (by omega)
      go_wp2_with (go_quiet (fail))
      go_roundw
      case rel => exact ⟨p1 + 1 + 1, by omega, by go_num, HQ2.out, HG.out.dn _, HB.out.gr ((Gr.refl _).dn _)⟩
      case measure => simp [intOf]; omega
    · have hge : ¬ ((k : Int) < (L.length : Int)) := by omega
      clear hup hg HU hbx
      obtain ⟨wo, rfl⟩ : ∃ x, x = wr := ⟨_, rfl⟩
      go_wp2
      go_loopw [5] (fun i wr => ∃ q : Nat, q ≤ L.length ∧ i = .int .i64 ((q : Int) - 1) ∧ Sg.lw L L.length = Sg.lw L q ∧ Gr wo wr) (fun i _ => (intOf i + 1).toNat)
      case atStart => exact ⟨L.length, Nat.le_refl _, rfl, rfl, Gr.refl _⟩
      case round =>
        obtain ⟨q, hq, rfl, hlw, hg⟩ := hrel
        have HLw := Lib.hid hlw
        have HG2 := Lib.hid hg
        clear hlw
        cases q with
        | zero =>
          exfalso
          have := HLw.out
          rw [Sg.lw] at this
          rw [hw] at this
          simp at this
          try omega
        | succ p2 =>
          obtain ⟨b, off, hade, hb, c0, c1, c2⟩ := fl_at HL.out p2 (by omega)
          have c1 := hg.keep (HG.out.keep c1)
          have h1 : ((p2 + 1 : Nat) : Int) - 1 = (p2 : Int) := by omega
          have hpl : (p2 : Int) < (L.length : Int) := by omega
          have HX : Hid (∀ w' : World, Calls Tryz.prog 62 #[.string L[p2].d, .int .i64 0, .int .i64 3] w' fun e w2 => ∃ a z, e = .returned (.tuple #[.string a, .int .i64 z, .int .i64 (Sg.hd L[p2] : Nat)]) ∧ Gr w' w2) := fun w' => by
            refine (refOpen_any L[p2].d 0 3 w' (by have := (HZ.out _ (List.getElem_mem (show p2 < L.length by omega))).2.2; omega)).mono ?_
            rintro e w2 ⟨rfl, h⟩
            exact ⟨_, _, rfl, h⟩
          have he : Sg.lw L (p2 + 1) = if Sg.hd L[p2] = 0 then ((p2 : Int), 0) else if Sg.hd L[p2] = 10 then Sg.lw L p2 else (-1, 170) := by rw [Sg.lw, Sg.at_eq L p2 (by omega)]
          rw [he] at HLw
          subst hade
          clear hg he c0 c2
          generalize L[p2].d = fd at *
          generalize Sg.hd L[p2] = r at *
          rw [h1]
          by_cases r0 : r = 0
          · subst r0
            rw [if_pos rfl] at HLw
            exfalso
            have := HLw.out
            rw [hw] at this
            simp at this
            try omega
          · rw [if_neg r0] at HLw
            have q0 : ((r : Int) == 0) = false := by rw [beq_eq_false_iff_ne]; omega
            by_cases r1 : r = 10
            · subst r1
              rw [if_pos rfl] at HLw
              go_wp2_with fail
              refine (HX.out _).mono ?_
              rintro e w1 ⟨za, zb, rfl, hg1⟩
              go_wp2
              go_roundw
              case rel => exact ⟨p2, by omega, rfl, HLw.out, HG2.out.trans (by repeat (first | exact Gr.refl _ | refine Gr.alloc ?_ | refine Gr.drew ?_ | refine Gr.trans ?_ (by assumption)))⟩
              case measure => simp [intOf]
            · rw [if_neg r1] at HLw
              have q1 : ((r : Int) != 10) = true := by rw [bne_iff_ne]; omega
              go_wp2_with fail
              refine (HX.out _).mono ?_
              rintro e w1 ⟨za, zb, rfl, hg1⟩
              obtain ⟨x0, x1, x2, x3, f0, f1, f2, f3, hlx⟩ := HB.out.gr (HG2.out.trans hg1)
              go_wp2
              exact bodyPost_ret (v := .tuple #[.agg #[.int .i64 0, .int .i64 0, .slice none 0 0, .slice none 0 0], .int .i64 170]) (by simp [results, Tryz.results34, go_sem, x0, x1, x2, x3]) rfl
                ⟨none, 0, none, 0, rfl, fun j h => absurd h (by simp [Sg.bad]), fun j h => absurd h (by simp [Sg.bad]), gr_fill (HG.out.trans (HG2.out.trans hg1)) (Nat.le_refl _) _ _ _ _, fun _ e => (by cases e), fun _ e => (by cases e)⟩
set_option maxHeartbeats 8000000 in
set_option maxRecDepth 100000 in
theorem rlook_none (L : List Fl) (ad : Option Addr) (cap : Nat) (w : World) (hL : FsAt w ad cap L) (hr : Sg.rise L = true) (hw : Sg.lw L L.length = (-1, 0)) :
    Calls Tryz.prog 34 #[.slice ad L.length cap] w fun e w' => LkR ⟨-1, 0, [], Sg.nums L, 0⟩ w e w' := by
  have HL := Lib.hid hL.row
  have HZ := Lib.hid hL.rng
  have hl := hL.len
  obtain ⟨i0, hi0, hz0, hz1, hz2⟩ := info_parts infoN
  clear hL
  go_enter Tryz.func34, Tryz.ntmps34
  go_wp2
  go_loopw [4] (fun i wr => ∃ k : Nat, 1 ≤ k ∧ i = .int .i64 k ∧ (∀ j (h : j + 1 < L.length), j + 1 < k → (L[j]'(by omega)).n < L[j + 1].n) ∧ Gr w wr ∧ Bx4 wr w.heap.size (.int .i64 0) (.int .i64 0) (.slice none 0 0) (.slice none 0 0)) (fun i _ => L.length - (intOf i).toNat)
  case atStart => exact ⟨1, Nat.le_refl _, rfl, by intro j _ h; omega, (Gr.refl _).alloc, Bx4.new w (.int .i64 0) (.int .i64 0) (.slice none 0 0) (.slice none 0 0) 80 _ rfl⟩
  case round =>
    obtain ⟨k, hk, rfl, hup, hg, hbx⟩ := hrel
    have HU := Lib.hid hup
    have HG := Lib.hid hg
    have HB := Lib.hid hbx
    by_cases hlt : k < L.length
    · obtain ⟨p1, rfl⟩ : ∃ p1, k = p1 + 1 := ⟨k - 1, by omega⟩
      obtain ⟨b, off, rfl, hb, c0, _⟩ := fl_at HL.out p1 (by omega)
      obtain ⟨b', off', e', hb', d0, _⟩ := fl_at HL.out (p1 + 1) hlt
      cases e'
      have c0 := hg.keep c0
      have d0 := hg.keep d0
      have hki : ((p1 + 1 : Nat) : Int) < (L.length : Int) := by omega
      have hpi : ((p1 + 1 : Nat) : Int) - 1 = (p1 : Int) := by omega
      have hpl : (p1 : Int) < (L.length : Int) := by omega
      have HQ : Hid ((L[p1]'(by omega)).n < L[p1 + 1].n → ∀ j (h : j + 1 < L.length), j + 1 < p1 + 1 + 1 → (L[j]'(by omega)).n < L[j + 1].n) := by
        intro h j hj hjp
        by_cases e : j = p1
        · subst e; exact h
        · exact HU.out j hj (by omega)
      have hxy := (Sg.rise_iff L).1 hr p1 hlt
      have HQ2 := Lib.hid (HQ.out hxy)
      clear hup hg HU hbx
      generalize hx : (L[p1]'(by omega)).n = x at *
      generalize hy : L[p1 + 1].n = y at *
      have d1 : decide (y ≤ x) = false := decide_eq_false (by omega)
      go_wp2_with (go_quiet (fail))
      go_roundw
      case rel => exact ⟨p1 + 1 + 1, by omega, by go_num, HQ2.out, HG.out.dn _, HB.out.gr ((Gr.refl _).dn _)⟩
      case measure => simp [intOf]; omega
    · have hge : ¬ ((k : Int) < (L.length : Int)) := by omega
      clear hup hg HU hbx
      obtain ⟨wo, rfl⟩ : ∃ x, x = wr := ⟨_, rfl⟩
      go_wp2
      go_loopw [5] (fun i wr => ∃ q : Nat, q ≤ L.length ∧ i = .int .i64 ((q : Int) - 1) ∧ Sg.lw L L.length = Sg.lw L q ∧ Gr wo wr) (fun i _ => (intOf i + 1).toNat)
      case atStart => exact ⟨L.length, Nat.le_refl _, rfl, rfl, Gr.refl _⟩
      case round =>
        obtain ⟨q, hq, rfl, hlw, hg⟩ := hrel
        have HLw := Lib.hid hlw
        have HG2 := Lib.hid hg
        clear hlw
        cases q with
        | zero =>
          have h1 : ((0 : Nat) : Int) - 1 = -1 := by omega
          rw [h1]
          have GX := Lib.hid (HG.out.trans HG2.out)
          have BX := Lib.hid (HB.out.gr HG2.out)
          clear hg
          obtain ⟨wx, rfl⟩ : ∃ x, x = wr := ⟨_, rfl⟩
          have HI0 : Hid (RgI w (wx.alloc (.cells #[.int .i64 (-1), .int .i64 0, .slice none 0 0, .slice none 0 0] 80)) wx.heap.size [] (.slice none 0 0)) := ⟨BX.out.gr (Gr.refl _).alloc, Bx4.new wx _ _ _ _ 80 _ rfl, World.ownsRow_nil _ _ _ _, GX.out.alloc, BX.out.lt⟩
          go_wp2
          go_loopw [10] (fun i wr => ∃ (j : Nat) (v : Value), j ≤ L.length ∧ i = .int .i64 (j : Int) ∧ RgI w wr wx.heap.size (dk L (-1) j) v) (fun i _ => L.length - (intOf i).toNat)
          case atStart => exact ⟨0, _, Nat.zero_le _, rfl, HI0.out⟩
          case round =>
            clear HI0
            obtain ⟨j, v, hj, rfl, hI⟩ := hrel
            have HI := Lib.hid hI
            by_cases hjl : j < L.length
            · have hji : (j : Int) < (L.length : Int) := by omega
              obtain ⟨fb, foff, fade, hfb, c0, _, _⟩ := fl_at HL.out j hjl
              have c0 := hI.gr.keep c0
              have HE := Lib.hid (show dk L (-1) (j + 1) = dk L (-1) j ++ [L[j].n] by rw [dk, if_neg (by omega), Sg.at_eq L j hjl])
              have hdl := dk_len L (-1) j
              have hneq : ((j : Int) != (-1)) = true := by rw [bne_iff_ne]; omega
              generalize dk L (-1) j = D at *
              generalize L[j].n = fn at *
              obtain ⟨va, vc, rfl⟩ : ∃ va vc, v = .slice va D.length vc := by
                obtain ⟨q1, q2, q3, _⟩ := own_nums hI.own
                exact ⟨q1, q2, q3⟩
              have hk : Bx4 wr wx.heap.size (.int .i64 (-1)) (.int .i64 0) (.slice none 0 0) (.slice va D.length vc) := hI.ob
              have hk3 := hk.c3
              have hsz := hk.lt
              subst fade
              clear hI hk
              go_upto_region 18 with fail
              refine beginL 10 (fun w' => w'.cell? ⟨wx.heap.size, 3, none⟩ = some (.slice va D.length vc) ∧ w'.cell? ⟨fb, foff + j * 3, none⟩ = some (.int .i64 fn)) (by kernel_rfl) (by first | with_reducible exact hk5 | exact ⟨Gr.keep (W := wr) (by repeat (first | exact Gr.refl _ | refine Gr.alloc ?_ | refine Gr.drew ?_ | refine Gr.trans ?_ (by assumption))) hk3, Gr.keep (W := wr) (by repeat (first | exact Gr.refl _ | refine Gr.alloc ?_ | refine Gr.drew ?_ | refine Gr.trans ?_ (by assumption))) c0⟩) (fun hHeld => ?_)
              refine takeW 0 65 (v := ?_) rfl rfl (by decide) (by kernel_rfl) (by kernel_rfl) (by kernel_rfl) (fun _ _ _ h => h) (by rfl) ?_ (fun _ => hHeld) ?_
              rotate_left
              · (intro w; (try intro hSw); (try dsimp only at hSw); go_simp; try with_reducible rfl)
              simp only [Act.put, List.setIfInBounds_toArray, List.set_cons_zero, List.set_cons_succ]
              refine takeW 2 67 (v := ?_) rfl rfl (by decide) (by kernel_rfl) (by kernel_rfl) (by kernel_rfl) (fun _ _ _ h => h) (by rfl) ?_ (fun _ => hHeld) ?_
              rotate_left
              · (intro w; (try intro hSw); (try dsimp only at hSw); go_simp; try with_reducible rfl)
              simp only [Act.put, List.setIfInBounds_toArray, List.set_cons_zero, List.set_cons_succ]
              refine takeW 3 68 (v := ?_) rfl rfl (by decide) (by kernel_rfl) (by kernel_rfl) (by kernel_rfl) (fun _ _ _ h => h) (by rfl) ?_ (fun _ => hHeld) ?_
              rotate_left
              · (intro w; (try intro hSw); (try dsimp only at hSw); go_simp; try with_reducible rfl)
              simp only [Act.put, List.setIfInBounds_toArray, List.set_cons_zero, List.set_cons_succ]
              refine takeW 4 69 (v := ?_) rfl rfl (by decide) (by kernel_rfl) (by kernel_rfl) (by kernel_rfl) (fun _ _ _ h => h) (by rfl) ?_ (fun _ => hHeld) ?_
              rotate_left
              · (intro w; (try intro hSw); (try dsimp only at hSw); go_simp; try with_reducible rfl)
              simp only [Act.put, List.setIfInBounds_toArray, List.set_cons_zero, List.set_cons_succ]
              refine takeW 5 70 (v := ?_) rfl rfl (by decide) (by kernel_rfl) (by kernel_rfl) (by kernel_rfl) (fun _ _ _ h => h) (by rfl) ?_ (fun _ => hHeld) ?_
              rotate_left
              · (intro w; (try intro hSw); (try dsimp only at hSw); go_simp; try with_reducible rfl)
              simp only [Act.put, List.setIfInBounds_toArray, List.set_cons_zero, List.set_cons_succ]
              refine takeS 1 66 (v := ?_) rfl rfl (by decide) (by kernel_rfl) (by kernel_rfl) (by kernel_rfl) (by kernel_rfl) (by kernel_rfl) (fun _ _ _ h => h) (by rfl) ?_ hHeld ?_
              rotate_left
              · (intro w; (try intro hSw); (try dsimp only at hSw); go_simp; try with_reducible rfl)
              simp only [Act.put, List.setIfInBounds_toArray, List.set_cons_zero, List.set_cons_succ]
              refine takeS 6 71 (v := ?_) rfl rfl (by decide) (by kernel_rfl) (by kernel_rfl) (by kernel_rfl) (by kernel_rfl) (by kernel_rfl) (fun _ _ _ h => h) (by rfl) ?_ hHeld ?_
              rotate_left
              · (intro w; (try intro hSw); (try dsimp only at hSw); go_simp; try with_reducible rfl)
              simp only [Act.put, List.setIfInBounds_toArray, List.set_cons_zero, List.set_cons_succ]
              refine stepC 7 (by kernel_rfl) rfl (fun K hK => ?_)
              go_simp
              refine hK.out _ _ (by first | with_reducible exact hk5 | exact ⟨Gr.keep (W := wr) (by repeat (first | exact Gr.refl _ | refine Gr.alloc ?_ | refine Gr.drew ?_ | refine Gr.trans ?_ (by assumption))) hk3, Gr.keep (W := wr) (by repeat (first | exact Gr.refl _ | refine Gr.alloc ?_ | refine Gr.drew ?_ | refine Gr.trans ?_ (by assumption))) c0⟩) (fun hHeldN => ?_)
              clear hHeld hK K
              have hHeld := hHeldN
              clear hHeldN
              have HO6 : Hid (World.ownsRow (wr.drew.alloc (.cells #[.int .i64 fn] 3)) (wx.heap.size + 1) 3 1 (.slice va D.length vc) D.length (intV D)) := row_gr HI.out.own (Gr.refl _).drew.alloc
              refine stepC 8 (by kernel_rfl) rfl (fun K hK => ?_)
              (refine step_append_own (by rfl) _ _ 43 (by rfl) (wx.heap.size + 1) 3 i0 (.int .i64 0) 1 8 Tryz.underlying43 hi0 hz0 hz1 hz2 rfl (by decide) _ _ _ (by rfl) HO6.out ⟨wr.heap.size, 0, none⟩ 1 1 [.int .i64 fn] (by rfl) (by rfl) (cell_one_new wr.drew _ _) (by intro u hu; simp at hu; subst hu; rfl) (by unfold maxLen; omega) (by omega) (by simp; omega) ?_; intro v6 w6 ho6 hgr6 hn6; have hk5 : w6.cell? ⟨wx.heap.size, 3, none⟩ = some (.slice va D.length vc) ∧ w6.cell? ⟨fb, foff + j * 3, none⟩ = some (.int .i64 fn) := ⟨hgr6.cell (Gr.keep (by repeat (first | exact Gr.refl _ | refine Gr.alloc ?_ | refine Gr.drew ?_ | refine Gr.trans ?_ (by assumption))) hk3) (fun e => by have h2 : wx.heap.size + 1 ≤ wx.heap.size := (HO6.out.lt _ e.symm).1; omega), hgr6.cell (Gr.keep (by repeat (first | exact Gr.refl _ | refine Gr.alloc ?_ | refine Gr.drew ?_ | refine Gr.trans ?_ (by assumption))) c0) (fun e => by have h2 : wx.heap.size + 1 ≤ fb := (HO6.out.lt _ e.symm).1; have hxx := BX.out.lt; omega)⟩)
              refine hK.out (Act.put _ (some 73) v6) _ (by first | with_reducible exact hk5 | exact ⟨Gr.keep (W := wr) (by repeat (first | exact Gr.refl _ | refine Gr.alloc ?_ | refine Gr.drew ?_ | refine Gr.trans ?_ (by assumption))) hk3, Gr.keep (W := wr) (by repeat (first | exact Gr.refl _ | refine Gr.alloc ?_ | refine Gr.drew ?_ | refine Gr.trans ?_ (by assumption))) c0⟩) (fun hHeldN => ?_)
              clear hHeld hK K
              have hHeld := hHeldN
              clear hHeldN
              simp only [Act.put, List.setIfInBounds_toArray, List.set_cons_zero, List.set_cons_succ]
              have ho7 : w6.ownsRow (wx.heap.size + 1) 3 1 v6 (D ++ [fn]).length (intV (D ++ [fn])) := by rw [intV_snoc, List.length_append]; exact ho6
              obtain ⟨a6, c6, rfl, _, _⟩ := own_nums ho7
              have hst := HI.out.step (x := fn) ho7 hgr6
              have hl7 : (D ++ [fn]).length = D.length + 1 := by simp
              rw [hl7] at hst
              have HI7 := Lib.hid hst.1
              obtain ⟨x0, x1, x2, x3, f0, f1, f2, f3, hlx⟩ := hst.2
              clear hst ho6 ho7 hgr6 hn6 HO6 HI hk5
              refine takeW 9 74 (v := ?_) rfl rfl (by decide) (by kernel_rfl) (by kernel_rfl) (by kernel_rfl) (fun _ _ _ h => h) (by rfl) ?_ (fun _ => hHeld) ?_
              rotate_left
              · (intro w; (try intro hSw); (try dsimp only at hSw); go_simp; try with_reducible rfl)
              simp only [Act.put, List.setIfInBounds_toArray, List.set_cons_zero, List.set_cons_succ]
              refine stepS (by kernel_rfl) rfl (by kernel_rfl) (fun K hK => ?_)
              go_simp
              refine hK.out _ _ ?_
              clear hHeld hK K
              refine doneL (by kernel_rfl) ?_ _
              go_wp2
              go_roundw
              case rel => exact ⟨j + 1, _, by omega, by go_num, by rw [HE.out]; exact HI7.out⟩
              case measure => simp [intOf]; omega
            · have hji : ¬ ((j : Int) < (L.length : Int)) := by omega
              have hje : j = L.length := by omega
              subst hje
              rw [dk_none L] at hI
              obtain ⟨va, vc, rfl, hfr, hia⟩ := own_nums hI.own
              obtain ⟨y0, y1, y2, y3, _⟩ := hI.ob
              have FA := fill_all (ab := none) (B := []) hI.rb (fun j h => absurd h (by simp)) hia (fun q e => by have := hfr q e; have := hI.lt; omega) (-1) 0 none 0 0 (.slice va (Sg.nums L).length vc)
              have HFA := Lib.hid FA
              have GI := Lib.hid hI.gr
              have HFr : Hid (∀ q, va = some q → w.heap.size ≤ q.block) := fun q e => by have := hfr q e; have := hI.lt; omega
              obtain ⟨x0, x1, x2, x3, f0, f1, f2, f3, hlx⟩ := hI.rb
              clear hI HI hia FA hfr
              go_wp2
              exact bodyPost_ret (v := .tuple #[.agg #[.int .i64 (-1), .int .i64 0, .slice none 0 0, .slice va (Sg.nums L).length vc], .int .i64 0]) (by simp [results, Tryz.results34, go_sem, x0, x1, x2, x3]) rfl
                ⟨none, 0, va, vc, rfl, HFA.out.1, HFA.out.2, gr_fill GI.out (Nat.le_refl _) _ _ _ _, fun _ e => (by cases e), HFr.out⟩
        | succ p2 =>
          obtain ⟨b, off, hade, hb, c0, c1, c2⟩ := fl_at HL.out p2 (by omega)
          have c1 := hg.keep (HG.out.keep c1)
          have h1 : ((p2 + 1 : Nat) : Int) - 1 = (p2 : Int) := by omega
          have hpl : (p2 : Int) < (L.length : Int) := by omega
          have HX : Hid (∀ w' : World, Calls Tryz.prog 62 #[.string L[p2].d, .int .i64 0, .int .i64 3] w' fun e w2 => ∃ a z, e = .returned (.tuple #[.string a, .int .i64 z, .int .i64 (Sg.hd L[p2] : Nat)]) ∧ Gr w' w2) := fun w' => by
            refine (refOpen_any L[p2].d 0 3 w' (by have := (HZ.out _ (List.getElem_mem (show p2 < L.length by omega))).2.2; omega)).mono ?_
            rintro e w2 ⟨rfl, h⟩
            exact ⟨_, _, rfl, h⟩
          have he : Sg.lw L (p2 + 1) = if Sg.hd L[p2] = 0 then ((p2 : Int), 0) else if Sg.hd L[p2] = 10 then Sg.lw L p2 else (-1, 170) := by rw [Sg.lw, Sg.at_eq L p2 (by omega)]
          rw [he] at HLw
          subst hade
          clear hg he c0 c2
          generalize L[p2].d = fd at *
          generalize Sg.hd L[p2] = r at *
          rw [h1]
          by_cases r0 : r = 0
          · subst r0
            rw [if_pos rfl] at HLw
            exfalso
            have := HLw.out
            rw [hw] at this
            simp at this
            try omega
          · rw [if_neg r0] at HLw
            have q0 : ((r : Int) == 0) = false := by rw [beq_eq_false_iff_ne]; omega
            by_cases r1 : r = 10
            · subst r1
              rw [if_pos rfl] at HLw
              go_wp2_with fail
              refine (HX.out _).mono ?_
              rintro e w1 ⟨za, zb, rfl, hg1⟩
              go_wp2
              go_roundw
              case rel => exact ⟨p2, by omega, rfl, HLw.out, HG2.out.trans (by repeat (first | exact Gr.refl _ | refine Gr.alloc ?_ | refine Gr.drew ?_ | refine Gr.trans ?_ (by assumption)))⟩
              case measure => simp [intOf]
            · rw [if_neg r1] at HLw
              have q1 : ((r : Int) != 10) = true := by rw [bne_iff_ne]; omega
              exfalso
              have := HLw.out
              rw [hw] at this
              simp at this
              try omega
set_option maxHeartbeats 8000000 in
set_option maxRecDepth 100000 in
theorem rlook_wrong (L : List Fl) (ad : Option Addr) (cap : Nat) (w : World) (hL : FsAt w ad cap L) (hr : Sg.rise L = true) (p : Nat) (hp : p < L.length) (hw : Sg.lw L L.length = ((p : Int), 0)) (B : List (List UInt8)) (gd : Nat) (er : Nat) (he0 : er ≠ 0) (he1 : er ≠ 10) (hc : Sg.cut L[p] = (B, gd, er)) :
    Calls Tryz.prog 34 #[.slice ad L.length cap] w fun e w' => LkR (Sg.bad 170) w e w' := by
  have HL := Lib.hid hL.row
  have HZ := Lib.hid hL.rng
  have hl := hL.len
  obtain ⟨i0, hi0, hz0, hz1, hz2⟩ := info_parts infoN
  have HC : Hid (∀ w' : World, Calls Tryz.prog 63 #[.string L[p].d, .int .i64 3] w' fun e w2 => ∃ ab cb, e = .returned (.tuple #[.slice ab B.length cb, .int .i64 (gd : Int), .int .i64 ((er : Int))]) ∧ StrsAt w2 ab (B.map mkT) ∧ (∀ p, ab = some p → w'.heap.size ≤ p.block) ∧ Gr w' w2) := fun w' => by
    have := refCut_any L[p].d w' (by have := (hL.rng _ (List.getElem_mem hp)).2.2; omega)
    unfold Sg.cut at hc
    rw [hc] at this
    exact this
  clear hL
  go_enter Tryz.func34, Tryz.ntmps34
  go_wp2
  go_loopw [4] (fun i wr => ∃ k : Nat, 1 ≤ k ∧ i = .int .i64 k ∧ (∀ j (h : j + 1 < L.length), j + 1 < k → (L[j]'(by omega)).n < L[j + 1].n) ∧ Gr w wr ∧ Bx4 wr w.heap.size (.int .i64 0) (.int .i64 0) (.slice none 0 0) (.slice none 0 0)) (fun i _ => L.length - (intOf i).toNat)
  case atStart => exact ⟨1, Nat.le_refl _, rfl, by intro j _ h; omega, (Gr.refl _).alloc, Bx4.new w (.int .i64 0) (.int .i64 0) (.slice none 0 0) (.slice none 0 0) 80 _ rfl⟩
  case round =>
    obtain ⟨k, hk, rfl, hup, hg, hbx⟩ := hrel
    have HU := Lib.hid hup
    have HG := Lib.hid hg
    have HB := Lib.hid hbx
    by_cases hlt : k < L.length
    · obtain ⟨p1, rfl⟩ : ∃ p1, k = p1 + 1 := ⟨k - 1, by omega⟩
      obtain ⟨b, off, rfl, hb, c0, _⟩ := fl_at HL.out p1 (by omega)
      obtain ⟨b', off', e', hb', d0, _⟩ := fl_at HL.out (p1 + 1) hlt
      cases e'
      have c0 := hg.keep c0
      have d0 := hg.keep d0
      have hki : ((p1 + 1 : Nat) : Int) < (L.length : Int) := by omega
      have hpi : ((p1 + 1 : Nat) : Int) - 1 = (p1 : Int) := by omega
      have hpl : (p1 : Int) < (L.length : Int) := by omega
      have HQ : Hid ((L[p1]'(by omega)).n < L[p1 + 1].n → ∀ j (h : j + 1 < L.length), j + 1 < p1 + 1 + 1 → (L[j]'(by omega)).n < L[j + 1].n) := by
        intro h j hj hjp
        by_cases e : j = p1
        · subst e; exact h
        · exact HU.out j hj (by omega)
      have hxy := (Sg.rise_iff L).1 hr p1 hlt
      have HQ2 := Lib.hid (HQ.out hxy)
      clear hup hg HU hbx
      generalize hx : (L[p1]'(by omega)).n = x at *
      generalize hy : L[p1 + 1].n = y at *
      have d1 : decide (y ≤ x) = false := decide_eq_false (by omega)
      go_wp2_with (go_quiet (fail))
      go_roundw
      case rel => exact ⟨p1 + 1 + 1, by omega, by go_num, HQ2.out, HG.out.dn _, HB.out.gr ((Gr.refl _).dn _)⟩
      case measure => simp [intOf]; omega
    · have hge : ¬ ((k : Int) < (L.length : Int)) := by omega
      clear hup hg HU hbx
      obtain ⟨wo, rfl⟩ : ∃ x, x = wr := ⟨_, rfl⟩
      go_wp2
      go_loopw [5] (fun i wr => ∃ q : Nat, q ≤ L.length ∧ i = .int .i64 ((q : Int) - 1) ∧ Sg.lw L L.length = Sg.lw L q ∧ Gr wo wr) (fun i _ => (intOf i + 1).toNat)
      case atStart => exact ⟨L.length, Nat.le_refl _, rfl, rfl, Gr.refl _⟩
      case round =>
        obtain ⟨q, hq, rfl, hlw, hg⟩ := hrel
        have HLw := Lib.hid hlw
        have HG2 := Lib.hid hg
        clear hlw
        cases q with
        | zero =>
          exfalso
          have := HLw.out
          rw [Sg.lw] at this
          rw [hw] at this
          simp at this
          try omega
        | succ p2 =>
          obtain ⟨b, off, hade, hb, c0, c1, c2⟩ := fl_at HL.out p2 (by omega)
          have c1 := hg.keep (HG.out.keep c1)
          have h1 : ((p2 + 1 : Nat) : Int) - 1 = (p2 : Int) := by omega
          have hpl : (p2 : Int) < (L.length : Int) := by omega
          have HX : Hid (∀ w' : World, Calls Tryz.prog 62 #[.string L[p2].d, .int .i64 0, .int .i64 3] w' fun e w2 => ∃ a z, e = .returned (.tuple #[.string a, .int .i64 z, .int .i64 (Sg.hd L[p2] : Nat)]) ∧ Gr w' w2) := fun w' => by
            refine (refOpen_any L[p2].d 0 3 w' (by have := (HZ.out _ (List.getElem_mem (show p2 < L.length by omega))).2.2; omega)).mono ?_
            rintro e w2 ⟨rfl, h⟩
            exact ⟨_, _, rfl, h⟩
          have he : Sg.lw L (p2 + 1) = if Sg.hd L[p2] = 0 then ((p2 : Int), 0) else if Sg.hd L[p2] = 10 then Sg.lw L p2 else (-1, 170) := by rw [Sg.lw, Sg.at_eq L p2 (by omega)]
          rw [he] at HLw
          subst hade
          clear hg he c0 c2
          generalize L[p2].d = fd at *
          generalize Sg.hd L[p2] = r at *
          rw [h1]
          by_cases r0 : r = 0
          · subst r0
            rw [if_pos rfl] at HLw
            have hpe : p2 = p := by
              have := HLw.out
              rw [hw] at this
              simp at this
              omega
            obtain rfl := hpe
            go_wp2_with fail
            refine (HX.out _).mono ?_
            rintro e wx ⟨za, zb, rfl, hg1⟩
            have GX := Lib.hid (HG.out.trans (HG2.out.trans hg1))
            have BX := Lib.hid (HB.out.gr (HG2.out.trans hg1))
            clear hg1
            have HI0 : Hid (RgI w (wx.alloc (.cells #[.int .i64 (-1), .int .i64 0, .slice none 0 0, .slice none 0 0] 80)) wx.heap.size [] (.slice none 0 0)) := ⟨BX.out.gr (Gr.refl _).alloc, Bx4.new wx _ _ _ _ 80 _ rfl, World.ownsRow_nil _ _ _ _, GX.out.alloc, BX.out.lt⟩
            go_wp2
            go_loopw [10] (fun i wr => ∃ (j : Nat) (v : Value), j ≤ L.length ∧ i = .int .i64 (j : Int) ∧ RgI w wr wx.heap.size (dk L (p2 : Int) j) v) (fun i _ => L.length - (intOf i).toNat)
            case atStart => exact ⟨0, _, Nat.zero_le _, rfl, HI0.out⟩
            case round =>
              clear HI0
              obtain ⟨j, v, hj, rfl, hI⟩ := hrel
              have HI := Lib.hid hI
              by_cases hjl : j < L.length
              · have hji : (j : Int) < (L.length : Int) := by omega
                by_cases hjp : j = p2
                · subst hjp
                  have HE := Lib.hid (show dk L (j : Int) (j + 1) = dk L (j : Int) j by rw [dk, if_pos rfl])
                  have hneq : ((j : Int) != (j : Int)) = false := by rw [bne_eq_false_iff_eq]
                  clear hI
                  go_wp2
                  go_roundw
                  case rel => exact ⟨j + 1, v, by omega, by go_num, by rw [HE.out]; exact HI.out⟩
                  case measure => simp [intOf]; omega
                obtain ⟨fb, foff, fade, hfb, c0, _, _⟩ := fl_at HL.out j hjl
                have c0 := hI.gr.keep c0
                have HE := Lib.hid (show dk L (p2 : Int) (j + 1) = dk L (p2 : Int) j ++ [L[j].n] by rw [dk, if_neg (by omega), Sg.at_eq L j hjl])
                have hdl := dk_len L (p2 : Int) j
                have hneq : ((j : Int) != (p2 : Int)) = true := by rw [bne_iff_ne]; omega
                generalize dk L (p2 : Int) j = D at *
                generalize L[j].n = fn at *
                obtain ⟨va, vc, rfl⟩ : ∃ va vc, v = .slice va D.length vc := by
                  obtain ⟨q1, q2, q3, _⟩ := own_nums hI.own
                  exact ⟨q1, q2, q3⟩
                have hk : Bx4 wr wx.heap.size (.int .i64 (-1)) (.int .i64 0) (.slice none 0 0) (.slice va D.length vc) := hI.ob
                have hk3 := hk.c3
                have hsz := hk.lt
                cases fade
                clear hI hk
                go_upto_region 18 with fail
                refine beginL 10 (fun w' => w'.cell? ⟨wx.heap.size, 3, none⟩ = some (.slice va D.length vc) ∧ w'.cell? ⟨b, off + j * 3, none⟩ = some (.int .i64 fn)) (by kernel_rfl) (by first | with_reducible exact hk5 | exact ⟨Gr.keep (W := wr) (by repeat (first | exact Gr.refl _ | refine Gr.alloc ?_ | refine Gr.drew ?_ | refine Gr.trans ?_ (by assumption))) hk3, Gr.keep (W := wr) (by repeat (first | exact Gr.refl _ | refine Gr.alloc ?_ | refine Gr.drew ?_ | refine Gr.trans ?_ (by assumption))) c0⟩) (fun hHeld => ?_)
                refine takeW 0 65 (v := ?_) rfl rfl (by decide) (by kernel_rfl) (by kernel_rfl) (by kernel_rfl) (fun _ _ _ h => h) (by rfl) ?_ (fun _ => hHeld) ?_
                rotate_left
                · (intro w; (try intro hSw); (try dsimp only at hSw); go_simp; try with_reducible rfl)
                simp only [Act.put, List.setIfInBounds_toArray, List.set_cons_zero, List.set_cons_succ]
                refine takeW 2 67 (v := ?_) rfl rfl (by decide) (by kernel_rfl) (by kernel_rfl) (by kernel_rfl) (fun _ _ _ h => h) (by rfl) ?_ (fun _ => hHeld) ?_
                rotate_left
                · (intro w; (try intro hSw); (try dsimp only at hSw); go_simp; try with_reducible rfl)
                simp only [Act.put, List.setIfInBounds_toArray, List.set_cons_zero, List.set_cons_succ]
                refine takeW 3 68 (v := ?_) rfl rfl (by decide) (by kernel_rfl) (by kernel_rfl) (by kernel_rfl) (fun _ _ _ h => h) (by rfl) ?_ (fun _ => hHeld) ?_
                rotate_left
                · (intro w; (try intro hSw); (try dsimp only at hSw); go_simp; try with_reducible rfl)
                simp only [Act.put, List.setIfInBounds_toArray, List.set_cons_zero, List.set_cons_succ]
                refine takeW 4 69 (v := ?_) rfl rfl (by decide) (by kernel_rfl) (by kernel_rfl) (by kernel_rfl) (fun _ _ _ h => h) (by rfl) ?_ (fun _ => hHeld) ?_
                rotate_left
                · (intro w; (try intro hSw); (try dsimp only at hSw); go_simp; try with_reducible rfl)
                simp only [Act.put, List.setIfInBounds_toArray, List.set_cons_zero, List.set_cons_succ]
                refine takeW 5 70 (v := ?_) rfl rfl (by decide) (by kernel_rfl) (by kernel_rfl) (by kernel_rfl) (fun _ _ _ h => h) (by rfl) ?_ (fun _ => hHeld) ?_
                rotate_left
                · (intro w; (try intro hSw); (try dsimp only at hSw); go_simp; try with_reducible rfl)
                simp only [Act.put, List.setIfInBounds_toArray, List.set_cons_zero, List.set_cons_succ]
                refine takeS 1 66 (v := ?_) rfl rfl (by decide) (by kernel_rfl) (by kernel_rfl) (by kernel_rfl) (by kernel_rfl) (by kernel_rfl) (fun _ _ _ h => h) (by rfl) ?_ hHeld ?_
                rotate_left
                · (intro w; (try intro hSw); (try dsimp only at hSw); go_simp; try with_reducible rfl)
                simp only [Act.put, List.setIfInBounds_toArray, List.set_cons_zero, List.set_cons_succ]
                refine takeS 6 71 (v := ?_) rfl rfl (by decide) (by kernel_rfl) (by kernel_rfl) (by kernel_rfl) (by kernel_rfl) (by kernel_rfl) (fun _ _ _ h => h) (by rfl) ?_ hHeld ?_
                rotate_left
                · (intro w; (try intro hSw); (try dsimp only at hSw); go_simp; try with_reducible rfl)
                simp only [Act.put, List.setIfInBounds_toArray, List.set_cons_zero, List.set_cons_succ]
                refine stepC 7 (by kernel_rfl) rfl (fun K hK => ?_)
                go_simp
                refine hK.out _ _ (by first | with_reducible exact hk5 | exact ⟨Gr.keep (W := wr) (by repeat (first | exact Gr.refl _ | refine Gr.alloc ?_ | refine Gr.drew ?_ | refine Gr.trans ?_ (by assumption))) hk3, Gr.keep (W := wr) (by repeat (first | exact Gr.refl _ | refine Gr.alloc ?_ | refine Gr.drew ?_ | refine Gr.trans ?_ (by assumption))) c0⟩) (fun hHeldN => ?_)
                clear hHeld hK K
                have hHeld := hHeldN
                clear hHeldN
                have HO6 : Hid (World.ownsRow (wr.drew.alloc (.cells #[.int .i64 fn] 3)) (wx.heap.size + 1) 3 1 (.slice va D.length vc) D.length (intV D)) := row_gr HI.out.own (Gr.refl _).drew.alloc
                refine stepC 8 (by kernel_rfl) rfl (fun K hK => ?_)
                (refine step_append_own (by rfl) _ _ 43 (by rfl) (wx.heap.size + 1) 3 i0 (.int .i64 0) 1 8 Tryz.underlying43 hi0 hz0 hz1 hz2 rfl (by decide) _ _ _ (by rfl) HO6.out ⟨wr.heap.size, 0, none⟩ 1 1 [.int .i64 fn] (by rfl) (by rfl) (cell_one_new wr.drew _ _) (by intro u hu; simp at hu; subst hu; rfl) (by unfold maxLen; omega) (by omega) (by simp; omega) ?_; intro v6 w6 ho6 hgr6 hn6; have hk5 : w6.cell? ⟨wx.heap.size, 3, none⟩ = some (.slice va D.length vc) ∧ w6.cell? ⟨b, off + j * 3, none⟩ = some (.int .i64 fn) := ⟨hgr6.cell (Gr.keep (by repeat (first | exact Gr.refl _ | refine Gr.alloc ?_ | refine Gr.drew ?_ | refine Gr.trans ?_ (by assumption))) hk3) (fun e => by have h2 : wx.heap.size + 1 ≤ wx.heap.size := (HO6.out.lt _ e.symm).1; omega), hgr6.cell (Gr.keep (by repeat (first | exact Gr.refl _ | refine Gr.alloc ?_ | refine Gr.drew ?_ | refine Gr.trans ?_ (by assumption))) c0) (fun e => by have h2 : wx.heap.size + 1 ≤ b := (HO6.out.lt _ e.symm).1; have hxx := BX.out.lt; omega)⟩)
                refine hK.out (Act.put _ (some 73) v6) _ (by first | with_reducible exact hk5 | exact ⟨Gr.keep (W := wr) (by repeat (first | exact Gr.refl _ | refine Gr.alloc ?_ | refine Gr.drew ?_ | refine Gr.trans ?_ (by assumption))) hk3, Gr.keep (W := wr) (by repeat (first | exact Gr.refl _ | refine Gr.alloc ?_ | refine Gr.drew ?_ | refine Gr.trans ?_ (by assumption))) c0⟩) (fun hHeldN => ?_)
                clear hHeld hK K
                have hHeld := hHeldN
                clear hHeldN
                simp only [Act.put, List.setIfInBounds_toArray, List.set_cons_zero, List.set_cons_succ]
                have ho7 : w6.ownsRow (wx.heap.size + 1) 3 1 v6 (D ++ [fn]).length (intV (D ++ [fn])) := by rw [intV_snoc, List.length_append]; exact ho6
                obtain ⟨a6, c6, rfl, _, _⟩ := own_nums ho7
                have hst := HI.out.step (x := fn) ho7 hgr6
                have hl7 : (D ++ [fn]).length = D.length + 1 := by simp
                rw [hl7] at hst
                have HI7 := Lib.hid hst.1
                obtain ⟨x0, x1, x2, x3, f0, f1, f2, f3, hlx⟩ := hst.2
                clear hst ho6 ho7 hgr6 hn6 HO6 HI hk5
                refine takeW 9 74 (v := ?_) rfl rfl (by decide) (by kernel_rfl) (by kernel_rfl) (by kernel_rfl) (fun _ _ _ h => h) (by rfl) ?_ (fun _ => hHeld) ?_
                rotate_left
                · (intro w; (try intro hSw); (try dsimp only at hSw); go_simp; try with_reducible rfl)
                simp only [Act.put, List.setIfInBounds_toArray, List.set_cons_zero, List.set_cons_succ]
                refine stepS (by kernel_rfl) rfl (by kernel_rfl) (fun K hK => ?_)
                go_simp
                refine hK.out _ _ ?_
                clear hHeld hK K
                refine doneL (by kernel_rfl) ?_ _
                go_wp2
                go_roundw
                case rel => exact ⟨j + 1, _, by omega, by go_num, by rw [HE.out]; exact HI7.out⟩
                case measure => simp [intOf]; omega
              · have hji : ¬ ((j : Int) < (L.length : Int)) := by omega
                have hje : j = L.length := by omega
                subst hje
                rw [dk_all L p2 hp] at hI
                obtain ⟨va, vc, rfl, hfr, hia⟩ := own_nums hI.own
                obtain ⟨fb, foff, fade, hfb, c0, c1, _⟩ := fl_at HL.out p2 hp
                have c0 := hI.gr.keep c0
                have c1 := hI.gr.keep c1
                cases fade
                have HIA := Lib.hid hia
                have HFr : Hid (∀ q, va = some q → wx.heap.size < q.block) := fun q e => by have := hfr q e; omega
                have hlt0 := hI.lt
                clear hI hia hfr
                go_wp2_with fail
                refine (HC.out _).mono ?_
                rintro e w5 ⟨ab, cb, rfl, hst, hfb, hg5⟩
                have HFb : Hid (∀ q, ab = some q → w.heap.size ≤ q.block) := fun q e => Nat.le_trans HI.out.gr.size (hfb q e)
                clear hfb
                have O5 := HI.out.ob.gr hg5
                have R5 := HI.out.rb.gr hg5
                have G5 := Lib.hid (HI.out.gr.trans hg5)
                have HIA5 := Lib.hid (HIA.out.gr hg5)
                have c0 := hg5.keep c0
                clear HI HIA hg5
                have hne0 : ((er : Int) != 0) = true := by rw [bne_iff_ne]; omega
                have hne1 : ((er : Int) != 10) = true := by rw [bne_iff_ne]; omega
                obtain ⟨x0, x1, x2, x3, f0, f1, f2, f3, hlx⟩ := R5
                clear O5
                go_wp2
                exact bodyPost_ret (v := .tuple #[.agg #[.int .i64 0, .int .i64 0, .slice none 0 0, .slice none 0 0], .int .i64 170]) (by simp [results, Tryz.results34, go_sem, x0, x1, x2, x3]) rfl
                  ⟨none, 0, none, 0, rfl, fun j h => absurd h (by simp [Sg.bad]), fun j h => absurd h (by simp [Sg.bad]), gr_fill G5.out (Nat.le_refl _) _ _ _ _, fun _ e => (by cases e), fun _ e => (by cases e)⟩

          · rw [if_neg r0] at HLw
            have q0 : ((r : Int) == 0) = false := by rw [beq_eq_false_iff_ne]; omega
            by_cases r1 : r = 10
            · subst r1
              rw [if_pos rfl] at HLw
              go_wp2_with fail
              refine (HX.out _).mono ?_
              rintro e w1 ⟨za, zb, rfl, hg1⟩
              go_wp2
              go_roundw
              case rel => exact ⟨p2, by omega, rfl, HLw.out, HG2.out.trans (by repeat (first | exact Gr.refl _ | refine Gr.alloc ?_ | refine Gr.drew ?_ | refine Gr.trans ?_ (by assumption)))⟩
              case measure => simp [intOf]
            · rw [if_neg r1] at HLw
              have q1 : ((r : Int) != 10) = true := by rw [bne_iff_ne]; omega
              exfalso
              have := HLw.out
              rw [hw] at this
              simp at this
              try omega
set_option maxHeartbeats 8000000 in
set_option maxRecDepth 100000 in
theorem rlook_all (L : List Fl) (ad : Option Addr) (cap : Nat) (w : World) (hL : FsAt w ad cap L) (hr : Sg.rise L = true) (p : Nat) (hp : p < L.length) (hw : Sg.lw L L.length = ((p : Int), 0)) (B : List (List UInt8)) (gd : Nat) (hc : Sg.cut L[p] = (B, gd, 0)) :
    Calls Tryz.prog 34 #[.slice ad L.length cap] w fun e w' => LkR ⟨L[p].n, gd, B, Sg.drops L p, 0⟩ w e w' := by
  have HL := Lib.hid hL.row
  have HZ := Lib.hid hL.rng
  have hl := hL.len
  obtain ⟨i0, hi0, hz0, hz1, hz2⟩ := info_parts infoN
  have HC : Hid (∀ w' : World, Calls Tryz.prog 63 #[.string L[p].d, .int .i64 3] w' fun e w2 => ∃ ab cb, e = .returned (.tuple #[.slice ab B.length cb, .int .i64 (gd : Int), .int .i64 (0)]) ∧ StrsAt w2 ab (B.map mkT) ∧ (∀ p, ab = some p → w'.heap.size ≤ p.block) ∧ Gr w' w2) := fun w' => by
    have := refCut_any L[p].d w' (by have := (hL.rng _ (List.getElem_mem hp)).2.2; omega)
    unfold Sg.cut at hc
    rw [hc] at this
    exact this
  clear hL
  go_enter Tryz.func34, Tryz.ntmps34
  go_wp2
  go_loopw [4] (fun i wr => ∃ k : Nat, 1 ≤ k ∧ i = .int .i64 k ∧ (∀ j (h : j + 1 < L.length), j + 1 < k → (L[j]'(by omega)).n < L[j + 1].n) ∧ Gr w wr ∧ Bx4 wr w.heap.size (.int .i64 0) (.int .i64 0) (.slice none 0 0) (.slice none 0 0)) (fun i _ => L.length - (intOf i).toNat)
  case atStart => exact ⟨1, Nat.le_refl _, rfl, by intro j _ h; omega, (Gr.refl _).alloc, Bx4.new w (.int .i64 0) (.int .i64 0) (.slice none 0 0) (.slice none 0 0) 80 _ rfl⟩
  case round =>
    obtain ⟨k, hk, rfl, hup, hg, hbx⟩ := hrel
    have HU := Lib.hid hup
    have HG := Lib.hid hg
    have HB := Lib.hid hbx
    by_cases hlt : k < L.length
    · obtain ⟨p1, rfl⟩ : ∃ p1, k = p1 + 1 := ⟨k - 1, by omega⟩
      obtain ⟨b, off, rfl, hb, c0, _⟩ := fl_at HL.out p1 (by omega)
      obtain ⟨b', off', e', hb', d0, _⟩ := fl_at HL.out (p1 + 1) hlt
      cases e'
      have c0 := hg.keep c0
      have d0 := hg.keep d0
      have hki : ((p1 + 1 : Nat) : Int) < (L.length : Int) := by omega
      have hpi : ((p1 + 1 : Nat) : Int) - 1 = (p1 : Int) := by omega
      have hpl : (p1 : Int) < (L.length : Int) := by omega
      have HQ : Hid ((L[p1]'(by omega)).n < L[p1 + 1].n → ∀ j (h : j + 1 < L.length), j + 1 < p1 + 1 + 1 → (L[j]'(by omega)).n < L[j + 1].n) := by
        intro h j hj hjp
        by_cases e : j = p1
        · subst e; exact h
        · exact HU.out j hj (by omega)
      have hxy := (Sg.rise_iff L).1 hr p1 hlt
      have HQ2 := Lib.hid (HQ.out hxy)
      clear hup hg HU hbx
      generalize hx : (L[p1]'(by omega)).n = x at *
      generalize hy : L[p1 + 1].n = y at *
      have d1 : decide (y ≤ x) = false := decide_eq_false (by omega)
      go_wp2_with (go_quiet (fail))
      go_roundw
      case rel => exact ⟨p1 + 1 + 1, by omega, by go_num, HQ2.out, HG.out.dn _, HB.out.gr ((Gr.refl _).dn _)⟩
      case measure => simp [intOf]; omega
    · have hge : ¬ ((k : Int) < (L.length : Int)) := by omega
      clear hup hg HU hbx
      obtain ⟨wo, rfl⟩ : ∃ x, x = wr := ⟨_, rfl⟩
      go_wp2
      go_loopw [5] (fun i wr => ∃ q : Nat, q ≤ L.length ∧ i = .int .i64 ((q : Int) - 1) ∧ Sg.lw L L.length = Sg.lw L q ∧ Gr wo wr) (fun i _ => (intOf i + 1).toNat)
      case atStart => exact ⟨L.length, Nat.le_refl _, rfl, rfl, Gr.refl _⟩
      case round =>
        obtain ⟨q, hq, rfl, hlw, hg⟩ := hrel
        have HLw := Lib.hid hlw
        have HG2 := Lib.hid hg
        clear hlw
        cases q with
        | zero =>
          exfalso
          have := HLw.out
          rw [Sg.lw] at this
          rw [hw] at this
          simp at this
          try omega
        | succ p2 =>
          obtain ⟨b, off, hade, hb, c0, c1, c2⟩ := fl_at HL.out p2 (by omega)
          have c1 := hg.keep (HG.out.keep c1)
          have h1 : ((p2 + 1 : Nat) : Int) - 1 = (p2 : Int) := by omega
          have hpl : (p2 : Int) < (L.length : Int) := by omega
          have HX : Hid (∀ w' : World, Calls Tryz.prog 62 #[.string L[p2].d, .int .i64 0, .int .i64 3] w' fun e w2 => ∃ a z, e = .returned (.tuple #[.string a, .int .i64 z, .int .i64 (Sg.hd L[p2] : Nat)]) ∧ Gr w' w2) := fun w' => by
            refine (refOpen_any L[p2].d 0 3 w' (by have := (HZ.out _ (List.getElem_mem (show p2 < L.length by omega))).2.2; omega)).mono ?_
            rintro e w2 ⟨rfl, h⟩
            exact ⟨_, _, rfl, h⟩
          have he : Sg.lw L (p2 + 1) = if Sg.hd L[p2] = 0 then ((p2 : Int), 0) else if Sg.hd L[p2] = 10 then Sg.lw L p2 else (-1, 170) := by rw [Sg.lw, Sg.at_eq L p2 (by omega)]
          rw [he] at HLw
          subst hade
          clear hg he c0 c2
          generalize L[p2].d = fd at *
          generalize Sg.hd L[p2] = r at *
          rw [h1]
          by_cases r0 : r = 0
          · subst r0
            rw [if_pos rfl] at HLw
            have hpe : p2 = p := by
              have := HLw.out
              rw [hw] at this
              simp at this
              omega
            obtain rfl := hpe
            go_wp2_with fail
            refine (HX.out _).mono ?_
            rintro e wx ⟨za, zb, rfl, hg1⟩
            have GX := Lib.hid (HG.out.trans (HG2.out.trans hg1))
            have BX := Lib.hid (HB.out.gr (HG2.out.trans hg1))
            clear hg1
            have HI0 : Hid (RgI w (wx.alloc (.cells #[.int .i64 (-1), .int .i64 0, .slice none 0 0, .slice none 0 0] 80)) wx.heap.size [] (.slice none 0 0)) := ⟨BX.out.gr (Gr.refl _).alloc, Bx4.new wx _ _ _ _ 80 _ rfl, World.ownsRow_nil _ _ _ _, GX.out.alloc, BX.out.lt⟩
            go_wp2
            go_loopw [10] (fun i wr => ∃ (j : Nat) (v : Value), j ≤ L.length ∧ i = .int .i64 (j : Int) ∧ RgI w wr wx.heap.size (dk L (p2 : Int) j) v) (fun i _ => L.length - (intOf i).toNat)
            case atStart => exact ⟨0, _, Nat.zero_le _, rfl, HI0.out⟩
            case round =>
              clear HI0
              obtain ⟨j, v, hj, rfl, hI⟩ := hrel
              have HI := Lib.hid hI
              by_cases hjl : j < L.length
              · have hji : (j : Int) < (L.length : Int) := by omega
                by_cases hjp : j = p2
                · subst hjp
                  have HE := Lib.hid (show dk L (j : Int) (j + 1) = dk L (j : Int) j by rw [dk, if_pos rfl])
                  have hneq : ((j : Int) != (j : Int)) = false := by rw [bne_eq_false_iff_eq]
                  clear hI
                  go_wp2
                  go_roundw
                  case rel => exact ⟨j + 1, v, by omega, by go_num, by rw [HE.out]; exact HI.out⟩
                  case measure => simp [intOf]; omega
                obtain ⟨fb, foff, fade, hfb, c0, _, _⟩ := fl_at HL.out j hjl
                have c0 := hI.gr.keep c0
                have HE := Lib.hid (show dk L (p2 : Int) (j + 1) = dk L (p2 : Int) j ++ [L[j].n] by rw [dk, if_neg (by omega), Sg.at_eq L j hjl])
                have hdl := dk_len L (p2 : Int) j
                have hneq : ((j : Int) != (p2 : Int)) = true := by rw [bne_iff_ne]; omega
                generalize dk L (p2 : Int) j = D at *
                generalize L[j].n = fn at *
                obtain ⟨va, vc, rfl⟩ : ∃ va vc, v = .slice va D.length vc := by
                  obtain ⟨q1, q2, q3, _⟩ := own_nums hI.own
                  exact ⟨q1, q2, q3⟩
                have hk : Bx4 wr wx.heap.size (.int .i64 (-1)) (.int .i64 0) (.slice none 0 0) (.slice va D.length vc) := hI.ob
                have hk3 := hk.c3
                have hsz := hk.lt
                cases fade
                clear hI hk
                go_upto_region 18 with fail
                refine beginL 10 (fun w' => w'.cell? ⟨wx.heap.size, 3, none⟩ = some (.slice va D.length vc) ∧ w'.cell? ⟨b, off + j * 3, none⟩ = some (.int .i64 fn)) (by kernel_rfl) (by first | with_reducible exact hk5 | exact ⟨Gr.keep (W := wr) (by repeat (first | exact Gr.refl _ | refine Gr.alloc ?_ | refine Gr.drew ?_ | refine Gr.trans ?_ (by assumption))) hk3, Gr.keep (W := wr) (by repeat (first | exact Gr.refl _ | refine Gr.alloc ?_ | refine Gr.drew ?_ | refine Gr.trans ?_ (by assumption))) c0⟩) (fun hHeld => ?_)
                refine takeW 0 65 (v := ?_) rfl rfl (by decide) (by kernel_rfl) (by kernel_rfl) (by kernel_rfl) (fun _ _ _ h => h) (by rfl) ?_ (fun _ => hHeld) ?_
                rotate_left
                · (intro w; (try intro hSw); (try dsimp only at hSw); go_simp; try with_reducible rfl)
                simp only [Act.put, List.setIfInBounds_toArray, List.set_cons_zero, List.set_cons_succ]
                refine takeW 2 67 (v := ?_) rfl rfl (by decide) (by kernel_rfl) (by kernel_rfl) (by kernel_rfl) (fun _ _ _ h => h) (by rfl) ?_ (fun _ => hHeld) ?_
                rotate_left
                · (intro w; (try intro hSw); (try dsimp only at hSw); go_simp; try with_reducible rfl)
                simp only [Act.put, List.setIfInBounds_toArray, List.set_cons_zero, List.set_cons_succ]
                refine takeW 3 68 (v := ?_) rfl rfl (by decide) (by kernel_rfl) (by kernel_rfl) (by kernel_rfl) (fun _ _ _ h => h) (by rfl) ?_ (fun _ => hHeld) ?_
                rotate_left
                · (intro w; (try intro hSw); (try dsimp only at hSw); go_simp; try with_reducible rfl)
                simp only [Act.put, List.setIfInBounds_toArray, List.set_cons_zero, List.set_cons_succ]
                refine takeW 4 69 (v := ?_) rfl rfl (by decide) (by kernel_rfl) (by kernel_rfl) (by kernel_rfl) (fun _ _ _ h => h) (by rfl) ?_ (fun _ => hHeld) ?_
                rotate_left
                · (intro w; (try intro hSw); (try dsimp only at hSw); go_simp; try with_reducible rfl)
                simp only [Act.put, List.setIfInBounds_toArray, List.set_cons_zero, List.set_cons_succ]
                refine takeW 5 70 (v := ?_) rfl rfl (by decide) (by kernel_rfl) (by kernel_rfl) (by kernel_rfl) (fun _ _ _ h => h) (by rfl) ?_ (fun _ => hHeld) ?_
                rotate_left
                · (intro w; (try intro hSw); (try dsimp only at hSw); go_simp; try with_reducible rfl)
                simp only [Act.put, List.setIfInBounds_toArray, List.set_cons_zero, List.set_cons_succ]
                refine takeS 1 66 (v := ?_) rfl rfl (by decide) (by kernel_rfl) (by kernel_rfl) (by kernel_rfl) (by kernel_rfl) (by kernel_rfl) (fun _ _ _ h => h) (by rfl) ?_ hHeld ?_
                rotate_left
                · (intro w; (try intro hSw); (try dsimp only at hSw); go_simp; try with_reducible rfl)
                simp only [Act.put, List.setIfInBounds_toArray, List.set_cons_zero, List.set_cons_succ]
                refine takeS 6 71 (v := ?_) rfl rfl (by decide) (by kernel_rfl) (by kernel_rfl) (by kernel_rfl) (by kernel_rfl) (by kernel_rfl) (fun _ _ _ h => h) (by rfl) ?_ hHeld ?_
                rotate_left
                · (intro w; (try intro hSw); (try dsimp only at hSw); go_simp; try with_reducible rfl)
                simp only [Act.put, List.setIfInBounds_toArray, List.set_cons_zero, List.set_cons_succ]
                refine stepC 7 (by kernel_rfl) rfl (fun K hK => ?_)
                go_simp
                refine hK.out _ _ (by first | with_reducible exact hk5 | exact ⟨Gr.keep (W := wr) (by repeat (first | exact Gr.refl _ | refine Gr.alloc ?_ | refine Gr.drew ?_ | refine Gr.trans ?_ (by assumption))) hk3, Gr.keep (W := wr) (by repeat (first | exact Gr.refl _ | refine Gr.alloc ?_ | refine Gr.drew ?_ | refine Gr.trans ?_ (by assumption))) c0⟩) (fun hHeldN => ?_)
                clear hHeld hK K
                have hHeld := hHeldN
                clear hHeldN
                have HO6 : Hid (World.ownsRow (wr.drew.alloc (.cells #[.int .i64 fn] 3)) (wx.heap.size + 1) 3 1 (.slice va D.length vc) D.length (intV D)) := row_gr HI.out.own (Gr.refl _).drew.alloc
                refine stepC 8 (by kernel_rfl) rfl (fun K hK => ?_)
                (refine step_append_own (by rfl) _ _ 43 (by rfl) (wx.heap.size + 1) 3 i0 (.int .i64 0) 1 8 Tryz.underlying43 hi0 hz0 hz1 hz2 rfl (by decide) _ _ _ (by rfl) HO6.out ⟨wr.heap.size, 0, none⟩ 1 1 [.int .i64 fn] (by rfl) (by rfl) (cell_one_new wr.drew _ _) (by intro u hu; simp at hu; subst hu; rfl) (by unfold maxLen; omega) (by omega) (by simp; omega) ?_; intro v6 w6 ho6 hgr6 hn6; have hk5 : w6.cell? ⟨wx.heap.size, 3, none⟩ = some (.slice va D.length vc) ∧ w6.cell? ⟨b, off + j * 3, none⟩ = some (.int .i64 fn) := ⟨hgr6.cell (Gr.keep (by repeat (first | exact Gr.refl _ | refine Gr.alloc ?_ | refine Gr.drew ?_ | refine Gr.trans ?_ (by assumption))) hk3) (fun e => by have h2 : wx.heap.size + 1 ≤ wx.heap.size := (HO6.out.lt _ e.symm).1; omega), hgr6.cell (Gr.keep (by repeat (first | exact Gr.refl _ | refine Gr.alloc ?_ | refine Gr.drew ?_ | refine Gr.trans ?_ (by assumption))) c0) (fun e => by have h2 : wx.heap.size + 1 ≤ b := (HO6.out.lt _ e.symm).1; have hxx := BX.out.lt; omega)⟩)
                refine hK.out (Act.put _ (some 73) v6) _ (by first | with_reducible exact hk5 | exact ⟨Gr.keep (W := wr) (by repeat (first | exact Gr.refl _ | refine Gr.alloc ?_ | refine Gr.drew ?_ | refine Gr.trans ?_ (by assumption))) hk3, Gr.keep (W := wr) (by repeat (first | exact Gr.refl _ | refine Gr.alloc ?_ | refine Gr.drew ?_ | refine Gr.trans ?_ (by assumption))) c0⟩) (fun hHeldN => ?_)
                clear hHeld hK K
                have hHeld := hHeldN
                clear hHeldN
                simp only [Act.put, List.setIfInBounds_toArray, List.set_cons_zero, List.set_cons_succ]
                have ho7 : w6.ownsRow (wx.heap.size + 1) 3 1 v6 (D ++ [fn]).length (intV (D ++ [fn])) := by rw [intV_snoc, List.length_append]; exact ho6
                obtain ⟨a6, c6, rfl, _, _⟩ := own_nums ho7
                have hst := HI.out.step (x := fn) ho7 hgr6
                have hl7 : (D ++ [fn]).length = D.length + 1 := by simp
                rw [hl7] at hst
                have HI7 := Lib.hid hst.1
                obtain ⟨x0, x1, x2, x3, f0, f1, f2, f3, hlx⟩ := hst.2
                clear hst ho6 ho7 hgr6 hn6 HO6 HI hk5
                refine takeW 9 74 (v := ?_) rfl rfl (by decide) (by kernel_rfl) (by kernel_rfl) (by kernel_rfl) (fun _ _ _ h => h) (by rfl) ?_ (fun _ => hHeld) ?_
                rotate_left
                · (intro w; (try intro hSw); (try dsimp only at hSw); go_simp; try with_reducible rfl)
                simp only [Act.put, List.setIfInBounds_toArray, List.set_cons_zero, List.set_cons_succ]
                refine stepS (by kernel_rfl) rfl (by kernel_rfl) (fun K hK => ?_)
                go_simp
                refine hK.out _ _ ?_
                clear hHeld hK K
                refine doneL (by kernel_rfl) ?_ _
                go_wp2
                go_roundw
                case rel => exact ⟨j + 1, _, by omega, by go_num, by rw [HE.out]; exact HI7.out⟩
                case measure => simp [intOf]; omega
              · have hji : ¬ ((j : Int) < (L.length : Int)) := by omega
                have hje : j = L.length := by omega
                subst hje
                rw [dk_all L p2 hp] at hI
                obtain ⟨va, vc, rfl, hfr, hia⟩ := own_nums hI.own
                obtain ⟨fb, foff, fade, hfb, c0, c1, _⟩ := fl_at HL.out p2 hp
                have c0 := hI.gr.keep c0
                have c1 := hI.gr.keep c1
                cases fade
                have HIA := Lib.hid hia
                have HFr : Hid (∀ q, va = some q → wx.heap.size < q.block) := fun q e => by have := hfr q e; omega
                have hlt0 := hI.lt
                clear hI hia hfr
                go_wp2_with fail
                refine (HC.out _).mono ?_
                rintro e w5 ⟨ab, cb, rfl, hst, hfb, hg5⟩
                have HFb : Hid (∀ q, ab = some q → w.heap.size ≤ q.block) := fun q e => Nat.le_trans HI.out.gr.size (hfb q e)
                clear hfb
                have O5 := HI.out.ob.gr hg5
                have R5 := HI.out.rb.gr hg5
                have G5 := Lib.hid (HI.out.gr.trans hg5)
                have HIA5 := Lib.hid (HIA.out.gr hg5)
                have c0 := hg5.keep c0
                clear HI HIA hg5
                have O6 := O5.s0 (.int .i64 L[p2].n)
                have O7 := O6.s2 (.slice ab B.length cb)
                have O8 := O7.s1 (.int .i64 (gd : Int))
                have R8 := ((R5.far ⟨wx.heap.size, 0, none⟩ (.int .i64 L[p2].n) (by simp; omega)).far ⟨wx.heap.size, 2, none⟩ (.slice ab B.length cb) (by simp; omega)).far ⟨wx.heap.size, 1, none⟩ (.int .i64 (gd : Int)) (by simp; omega)
                have S8 := strs_set (strs_set (strs_set hst (.int .i64 L[p2].n) O5.c0 (by simp)) (.slice ab B.length cb) O6.c2 (by simp)) (.int .i64 (gd : Int)) O7.c1 (by simp)
                have I8 := ints_far (ints_far (ints_far HIA5.out ⟨wx.heap.size, 0, none⟩ (.int .i64 L[p2].n) (fun q e => by have := HFr.out q e; simp; omega)) ⟨wx.heap.size, 2, none⟩ (.slice ab B.length cb) (fun q e => by have := HFr.out q e; simp; omega)) ⟨wx.heap.size, 1, none⟩ (.int .i64 (gd : Int)) (fun q e => by have := HFr.out q e; simp; omega)
                have G8 : Hid (Gr w (((w5.setCell ⟨wx.heap.size, 0, none⟩ (.int .i64 L[p2].n)).setCell ⟨wx.heap.size, 2, none⟩ (.slice ab B.length cb)).setCell ⟨wx.heap.size, 1, none⟩ (.int .i64 (gd : Int)))) := ((G5.out.set _ (by simp; omega) _).set _ (by simp; omega) _).set _ (by simp; omega) _
                have FA := fill_all R8 S8 I8 (fun q e => by have := HFr.out q e; omega) L[p2].n gd ab B.length cb (.slice va (Sg.drops L p2).length vc)
                have HFA := Lib.hid FA
                have R8h := Lib.hid R8
                have O8h := Lib.hid O8
                clear FA S8 I8 R8 O8
                obtain ⟨y0, y1, y2, y3, g0, g1, g2, g3, hly⟩ := O5
                obtain ⟨z0, z1, z2, z3, k0, k1, k2, k3, hlz⟩ := O6
                obtain ⟨t0, t1, t2, t3, m0, m1, m2, m3, hlt7⟩ := O7
                generalize hfn : L[p2].n = fn at *
                go_upto_region 27 with fail
                obtain ⟨x0, x1, x2, x3, f0, f1, f2, f3, hlx⟩ := R8h.out
                obtain ⟨v0, v1, v2, v3, _⟩ := O8h.out
                go_wp2
                exact bodyPost_ret (v := .tuple #[.agg #[.int .i64 fn, .int .i64 gd, .slice ab B.length cb, .slice va (Sg.drops L p2).length vc], .int .i64 0]) (by simp [results, Tryz.results34, go_sem, x0, x1, x2, x3]) rfl
                  ⟨ab, cb, va, vc, (by rw [hfn]), HFA.out.1, HFA.out.2, gr_fill G8.out (Nat.le_refl _) _ _ _ _, HFb.out, fun q e => by have := HFr.out q e; omega⟩

          · rw [if_neg r0] at HLw
            have q0 : ((r : Int) == 0) = false := by rw [beq_eq_false_iff_ne]; omega
            by_cases r1 : r = 10
            · subst r1
              rw [if_pos rfl] at HLw
              go_wp2_with fail
              refine (HX.out _).mono ?_
              rintro e w1 ⟨za, zb, rfl, hg1⟩
              go_wp2
              go_roundw
              case rel => exact ⟨p2, by omega, rfl, HLw.out, HG2.out.trans (by repeat (first | exact Gr.refl _ | refine Gr.alloc ?_ | refine Gr.drew ?_ | refine Gr.trans ?_ (by assumption)))⟩
              case measure => simp [intOf]
            · rw [if_neg r1] at HLw
              have q1 : ((r : Int) != 10) = true := by rw [bne_iff_ne]; omega
              exfalso
              have := HLw.out
              rw [hw] at this
              simp at this
              try omega
set_option maxHeartbeats 8000000 in
set_option maxRecDepth 100000 in
theorem rlook_torn (L : List Fl) (ad : Option Addr) (cap : Nat) (w : World) (hL : FsAt w ad cap L) (hr : Sg.rise L = true) (p : Nat) (hp : p < L.length) (hw : Sg.lw L L.length = ((p : Int), 0)) (B : List (List UInt8)) (gd : Nat) (hc : Sg.cut L[p] = (B, gd, 10)) :
    Calls Tryz.prog 34 #[.slice ad L.length cap] w fun e w' => LkR ⟨L[p].n, gd, B, Sg.drops L p, 0⟩ w e w' := by
  have HL := Lib.hid hL.row
  have HZ := Lib.hid hL.rng
  have hl := hL.len
  obtain ⟨i0, hi0, hz0, hz1, hz2⟩ := info_parts infoN
  have HC : Hid (∀ w' : World, Calls Tryz.prog 63 #[.string L[p].d, .int .i64 3] w' fun e w2 => ∃ ab cb, e = .returned (.tuple #[.slice ab B.length cb, .int .i64 (gd : Int), .int .i64 (10)]) ∧ StrsAt w2 ab (B.map mkT) ∧ (∀ p, ab = some p → w'.heap.size ≤ p.block) ∧ Gr w' w2) := fun w' => by
    have := refCut_any L[p].d w' (by have := (hL.rng _ (List.getElem_mem hp)).2.2; omega)
    unfold Sg.cut at hc
    rw [hc] at this
    exact this
  clear hL
  go_enter Tryz.func34, Tryz.ntmps34
  go_wp2
  go_loopw [4] (fun i wr => ∃ k : Nat, 1 ≤ k ∧ i = .int .i64 k ∧ (∀ j (h : j + 1 < L.length), j + 1 < k → (L[j]'(by omega)).n < L[j + 1].n) ∧ Gr w wr ∧ Bx4 wr w.heap.size (.int .i64 0) (.int .i64 0) (.slice none 0 0) (.slice none 0 0)) (fun i _ => L.length - (intOf i).toNat)
  case atStart => exact ⟨1, Nat.le_refl _, rfl, by intro j _ h; omega, (Gr.refl _).alloc, Bx4.new w (.int .i64 0) (.int .i64 0) (.slice none 0 0) (.slice none 0 0) 80 _ rfl⟩
  case round =>
    obtain ⟨k, hk, rfl, hup, hg, hbx⟩ := hrel
    have HU := Lib.hid hup
    have HG := Lib.hid hg
    have HB := Lib.hid hbx
    by_cases hlt : k < L.length
    · obtain ⟨p1, rfl⟩ : ∃ p1, k = p1 + 1 := ⟨k - 1, by omega⟩
      obtain ⟨b, off, rfl, hb, c0, _⟩ := fl_at HL.out p1 (by omega)
      obtain ⟨b', off', e', hb', d0, _⟩ := fl_at HL.out (p1 + 1) hlt
      cases e'
      have c0 := hg.keep c0
      have d0 := hg.keep d0
      have hki : ((p1 + 1 : Nat) : Int) < (L.length : Int) := by omega
      have hpi : ((p1 + 1 : Nat) : Int) - 1 = (p1 : Int) := by omega
      have hpl : (p1 : Int) < (L.length : Int) := by omega
      have HQ : Hid ((L[p1]'(by omega)).n < L[p1 + 1].n → ∀ j (h : j + 1 < L.length), j + 1 < p1 + 1 + 1 → (L[j]'(by omega)).n < L[j + 1].n) := by
        intro h j hj hjp
        by_cases e : j = p1
        · subst e; exact h
        · exact HU.out j hj (by omega)
      have hxy := (Sg.rise_iff L).1 hr p1 hlt
      have HQ2 := Lib.hid (HQ.out hxy)
      clear hup hg HU hbx
      generalize hx : (L[p1]'(by omega)).n = x at *
      generalize hy : L[p1 + 1].n = y at *
      have d1 : decide (y ≤ x) = false := decide_eq_false (by omega)
      go_wp2_with (go_quiet (fail))
      go_roundw
      case rel => exact ⟨p1 + 1 + 1, by omega, by go_num, HQ2.out, HG.out.dn _, HB.out.gr ((Gr.refl _).dn _)⟩
      case measure => simp [intOf]; omega
    · have hge : ¬ ((k : Int) < (L.length : Int)) := by omega
      clear hup hg HU hbx
      obtain ⟨wo, rfl⟩ : ∃ x, x = wr := ⟨_, rfl⟩
      go_wp2
      go_loopw [5] (fun i wr => ∃ q : Nat, q ≤ L.length ∧ i = .int .i64 ((q : Int) - 1) ∧ Sg.lw L L.length = Sg.lw L q ∧ Gr wo wr) (fun i _ => (intOf i + 1).toNat)
      case atStart => exact ⟨L.length, Nat.le_refl _, rfl, rfl, Gr.refl _⟩
      case round =>
        obtain ⟨q, hq, rfl, hlw, hg⟩ := hrel
        have HLw := Lib.hid hlw
        have HG2 := Lib.hid hg
        clear hlw
        cases q with
        | zero =>
          exfalso
          have := HLw.out
          rw [Sg.lw] at this
          rw [hw] at this
          simp at this
          try omega
        | succ p2 =>
          obtain ⟨b, off, hade, hb, c0, c1, c2⟩ := fl_at HL.out p2 (by omega)
          have c1 := hg.keep (HG.out.keep c1)
          have h1 : ((p2 + 1 : Nat) : Int) - 1 = (p2 : Int) := by omega
          have hpl : (p2 : Int) < (L.length : Int) := by omega
          have HX : Hid (∀ w' : World, Calls Tryz.prog 62 #[.string L[p2].d, .int .i64 0, .int .i64 3] w' fun e w2 => ∃ a z, e = .returned (.tuple #[.string a, .int .i64 z, .int .i64 (Sg.hd L[p2] : Nat)]) ∧ Gr w' w2) := fun w' => by
            refine (refOpen_any L[p2].d 0 3 w' (by have := (HZ.out _ (List.getElem_mem (show p2 < L.length by omega))).2.2; omega)).mono ?_
            rintro e w2 ⟨rfl, h⟩
            exact ⟨_, _, rfl, h⟩
          have he : Sg.lw L (p2 + 1) = if Sg.hd L[p2] = 0 then ((p2 : Int), 0) else if Sg.hd L[p2] = 10 then Sg.lw L p2 else (-1, 170) := by rw [Sg.lw, Sg.at_eq L p2 (by omega)]
          rw [he] at HLw
          subst hade
          clear hg he c0 c2
          generalize L[p2].d = fd at *
          generalize Sg.hd L[p2] = r at *
          rw [h1]
          by_cases r0 : r = 0
          · subst r0
            rw [if_pos rfl] at HLw
            have hpe : p2 = p := by
              have := HLw.out
              rw [hw] at this
              simp at this
              omega
            obtain rfl := hpe
            go_wp2_with fail
            refine (HX.out _).mono ?_
            rintro e wx ⟨za, zb, rfl, hg1⟩
            have GX := Lib.hid (HG.out.trans (HG2.out.trans hg1))
            have BX := Lib.hid (HB.out.gr (HG2.out.trans hg1))
            clear hg1
            have HI0 : Hid (RgI w (wx.alloc (.cells #[.int .i64 (-1), .int .i64 0, .slice none 0 0, .slice none 0 0] 80)) wx.heap.size [] (.slice none 0 0)) := ⟨BX.out.gr (Gr.refl _).alloc, Bx4.new wx _ _ _ _ 80 _ rfl, World.ownsRow_nil _ _ _ _, GX.out.alloc, BX.out.lt⟩
            go_wp2
            go_loopw [10] (fun i wr => ∃ (j : Nat) (v : Value), j ≤ L.length ∧ i = .int .i64 (j : Int) ∧ RgI w wr wx.heap.size (dk L (p2 : Int) j) v) (fun i _ => L.length - (intOf i).toNat)
            case atStart => exact ⟨0, _, Nat.zero_le _, rfl, HI0.out⟩
            case round =>
              clear HI0
              obtain ⟨j, v, hj, rfl, hI⟩ := hrel
              have HI := Lib.hid hI
              by_cases hjl : j < L.length
              · have hji : (j : Int) < (L.length : Int) := by omega
                by_cases hjp : j = p2
                · subst hjp
                  have HE := Lib.hid (show dk L (j : Int) (j + 1) = dk L (j : Int) j by rw [dk, if_pos rfl])
                  have hneq : ((j : Int) != (j : Int)) = false := by rw [bne_eq_false_iff_eq]
                  clear hI
                  go_wp2
                  go_roundw
                  case rel => exact ⟨j + 1, v, by omega, by go_num, by rw [HE.out]; exact HI.out⟩
                  case measure => simp [intOf]; omega
                obtain ⟨fb, foff, fade, hfb, c0, _, _⟩ := fl_at HL.out j hjl
                have c0 := hI.gr.keep c0
                have HE := Lib.hid (show dk L (p2 : Int) (j + 1) = dk L (p2 : Int) j ++ [L[j].n] by rw [dk, if_neg (by omega), Sg.at_eq L j hjl])
                have hdl := dk_len L (p2 : Int) j
                have hneq : ((j : Int) != (p2 : Int)) = true := by rw [bne_iff_ne]; omega
                generalize dk L (p2 : Int) j = D at *
                generalize L[j].n = fn at *
                obtain ⟨va, vc, rfl⟩ : ∃ va vc, v = .slice va D.length vc := by
                  obtain ⟨q1, q2, q3, _⟩ := own_nums hI.own
                  exact ⟨q1, q2, q3⟩
                have hk : Bx4 wr wx.heap.size (.int .i64 (-1)) (.int .i64 0) (.slice none 0 0) (.slice va D.length vc) := hI.ob
                have hk3 := hk.c3
                have hsz := hk.lt
                cases fade
                clear hI hk
                go_upto_region 18 with fail
                refine beginL 10 (fun w' => w'.cell? ⟨wx.heap.size, 3, none⟩ = some (.slice va D.length vc) ∧ w'.cell? ⟨b, off + j * 3, none⟩ = some (.int .i64 fn)) (by kernel_rfl) (by first | with_reducible exact hk5 | exact ⟨Gr.keep (W := wr) (by repeat (first | exact Gr.refl _ | refine Gr.alloc ?_ | refine Gr.drew ?_ | refine Gr.trans ?_ (by assumption))) hk3, Gr.keep (W := wr) (by repeat (first | exact Gr.refl _ | refine Gr.alloc ?_ | refine Gr.drew ?_ | refine Gr.trans ?_ (by assumption))) c0⟩) (fun hHeld => ?_)
                refine takeW 0 65 (v := ?_) rfl rfl (by decide) (by kernel_rfl) (by kernel_rfl) (by kernel_rfl) (fun _ _ _ h => h) (by rfl) ?_ (fun _ => hHeld) ?_
                rotate_left
                · (intro w; (try intro hSw); (try dsimp only at hSw); go_simp; try with_reducible rfl)
                simp only [Act.put, List.setIfInBounds_toArray, List.set_cons_zero, List.set_cons_succ]
                refine takeW 2 67 (v := ?_) rfl rfl (by decide) (by kernel_rfl) (by kernel_rfl) (by kernel_rfl) (fun _ _ _ h => h) (by rfl) ?_ (fun _ => hHeld) ?_
                rotate_left
                · (intro w; (try intro hSw); (try dsimp only at hSw); go_simp; try with_reducible rfl)
                simp only [Act.put, List.setIfInBounds_toArray, List.set_cons_zero, List.set_cons_succ]
                refine takeW 3 68 (v := ?_) rfl rfl (by decide) (by kernel_rfl) (by kernel_rfl) (by kernel_rfl) (fun _ _ _ h => h) (by rfl) ?_ (fun _ => hHeld) ?_
                rotate_left
                · (intro w; (try intro hSw); (try dsimp only at hSw); go_simp; try with_reducible rfl)
                simp only [Act.put, List.setIfInBounds_toArray, List.set_cons_zero, List.set_cons_succ]
                refine takeW 4 69 (v := ?_) rfl rfl (by decide) (by kernel_rfl) (by kernel_rfl) (by kernel_rfl) (fun _ _ _ h => h) (by rfl) ?_ (fun _ => hHeld) ?_
                rotate_left
                · (intro w; (try intro hSw); (try dsimp only at hSw); go_simp; try with_reducible rfl)
                simp only [Act.put, List.setIfInBounds_toArray, List.set_cons_zero, List.set_cons_succ]
                refine takeW 5 70 (v := ?_) rfl rfl (by decide) (by kernel_rfl) (by kernel_rfl) (by kernel_rfl) (fun _ _ _ h => h) (by rfl) ?_ (fun _ => hHeld) ?_
                rotate_left
                · (intro w; (try intro hSw); (try dsimp only at hSw); go_simp; try with_reducible rfl)
                simp only [Act.put, List.setIfInBounds_toArray, List.set_cons_zero, List.set_cons_succ]
                refine takeS 1 66 (v := ?_) rfl rfl (by decide) (by kernel_rfl) (by kernel_rfl) (by kernel_rfl) (by kernel_rfl) (by kernel_rfl) (fun _ _ _ h => h) (by rfl) ?_ hHeld ?_
                rotate_left
                · (intro w; (try intro hSw); (try dsimp only at hSw); go_simp; try with_reducible rfl)
                simp only [Act.put, List.setIfInBounds_toArray, List.set_cons_zero, List.set_cons_succ]
                refine takeS 6 71 (v := ?_) rfl rfl (by decide) (by kernel_rfl) (by kernel_rfl) (by kernel_rfl) (by kernel_rfl) (by kernel_rfl) (fun _ _ _ h => h) (by rfl) ?_ hHeld ?_
                rotate_left
                · (intro w; (try intro hSw); (try dsimp only at hSw); go_simp; try with_reducible rfl)
                simp only [Act.put, List.setIfInBounds_toArray, List.set_cons_zero, List.set_cons_succ]
                refine stepC 7 (by kernel_rfl) rfl (fun K hK => ?_)
                go_simp
                refine hK.out _ _ (by first | with_reducible exact hk5 | exact ⟨Gr.keep (W := wr) (by repeat (first | exact Gr.refl _ | refine Gr.alloc ?_ | refine Gr.drew ?_ | refine Gr.trans ?_ (by assumption))) hk3, Gr.keep (W := wr) (by repeat (first | exact Gr.refl _ | refine Gr.alloc ?_ | refine Gr.drew ?_ | refine Gr.trans ?_ (by assumption))) c0⟩) (fun hHeldN => ?_)
                clear hHeld hK K
                have hHeld := hHeldN
                clear hHeldN
                have HO6 : Hid (World.ownsRow (wr.drew.alloc (.cells #[.int .i64 fn] 3)) (wx.heap.size + 1) 3 1 (.slice va D.length vc) D.length (intV D)) := row_gr HI.out.own (Gr.refl _).drew.alloc
                refine stepC 8 (by kernel_rfl) rfl (fun K hK => ?_)
                (refine step_append_own (by rfl) _ _ 43 (by rfl) (wx.heap.size + 1) 3 i0 (.int .i64 0) 1 8 Tryz.underlying43 hi0 hz0 hz1 hz2 rfl (by decide) _ _ _ (by rfl) HO6.out ⟨wr.heap.size, 0, none⟩ 1 1 [.int .i64 fn] (by rfl) (by rfl) (cell_one_new wr.drew _ _) (by intro u hu; simp at hu; subst hu; rfl) (by unfold maxLen; omega) (by omega) (by simp; omega) ?_; intro v6 w6 ho6 hgr6 hn6; have hk5 : w6.cell? ⟨wx.heap.size, 3, none⟩ = some (.slice va D.length vc) ∧ w6.cell? ⟨b, off + j * 3, none⟩ = some (.int .i64 fn) := ⟨hgr6.cell (Gr.keep (by repeat (first | exact Gr.refl _ | refine Gr.alloc ?_ | refine Gr.drew ?_ | refine Gr.trans ?_ (by assumption))) hk3) (fun e => by have h2 : wx.heap.size + 1 ≤ wx.heap.size := (HO6.out.lt _ e.symm).1; omega), hgr6.cell (Gr.keep (by repeat (first | exact Gr.refl _ | refine Gr.alloc ?_ | refine Gr.drew ?_ | refine Gr.trans ?_ (by assumption))) c0) (fun e => by have h2 : wx.heap.size + 1 ≤ b := (HO6.out.lt _ e.symm).1; have hxx := BX.out.lt; omega)⟩)
                refine hK.out (Act.put _ (some 73) v6) _ (by first | with_reducible exact hk5 | exact ⟨Gr.keep (W := wr) (by repeat (first | exact Gr.refl _ | refine Gr.alloc ?_ | refine Gr.drew ?_ | refine Gr.trans ?_ (by assumption))) hk3, Gr.keep (W := wr) (by repeat (first | exact Gr.refl _ | refine Gr.alloc ?_ | refine Gr.drew ?_ | refine Gr.trans ?_ (by assumption))) c0⟩) (fun hHeldN => ?_)
                clear hHeld hK K
                have hHeld := hHeldN
                clear hHeldN
                simp only [Act.put, List.setIfInBounds_toArray, List.set_cons_zero, List.set_cons_succ]
                have ho7 : w6.ownsRow (wx.heap.size + 1) 3 1 v6 (D ++ [fn]).length (intV (D ++ [fn])) := by rw [intV_snoc, List.length_append]; exact ho6
                obtain ⟨a6, c6, rfl, _, _⟩ := own_nums ho7
                have hst := HI.out.step (x := fn) ho7 hgr6
                have hl7 : (D ++ [fn]).length = D.length + 1 := by simp
                rw [hl7] at hst
                have HI7 := Lib.hid hst.1
                obtain ⟨x0, x1, x2, x3, f0, f1, f2, f3, hlx⟩ := hst.2
                clear hst ho6 ho7 hgr6 hn6 HO6 HI hk5
                refine takeW 9 74 (v := ?_) rfl rfl (by decide) (by kernel_rfl) (by kernel_rfl) (by kernel_rfl) (fun _ _ _ h => h) (by rfl) ?_ (fun _ => hHeld) ?_
                rotate_left
                · (intro w; (try intro hSw); (try dsimp only at hSw); go_simp; try with_reducible rfl)
                simp only [Act.put, List.setIfInBounds_toArray, List.set_cons_zero, List.set_cons_succ]
                refine stepS (by kernel_rfl) rfl (by kernel_rfl) (fun K hK => ?_)
                go_simp
                refine hK.out _ _ ?_
                clear hHeld hK K
                refine doneL (by kernel_rfl) ?_ _
                go_wp2
                go_roundw
                case rel => exact ⟨j + 1, _, by omega, by go_num, by rw [HE.out]; exact HI7.out⟩
                case measure => simp [intOf]; omega
              · have hji : ¬ ((j : Int) < (L.length : Int)) := by omega
                have hje : j = L.length := by omega
                subst hje
                rw [dk_all L p2 hp] at hI
                obtain ⟨va, vc, rfl, hfr, hia⟩ := own_nums hI.own
                obtain ⟨fb, foff, fade, hfb, c0, c1, _⟩ := fl_at HL.out p2 hp
                have c0 := hI.gr.keep c0
                have c1 := hI.gr.keep c1
                cases fade
                have HIA := Lib.hid hia
                have HFr : Hid (∀ q, va = some q → wx.heap.size < q.block) := fun q e => by have := hfr q e; omega
                have hlt0 := hI.lt
                clear hI hia hfr
                go_wp2_with fail
                refine (HC.out _).mono ?_
                rintro e w5 ⟨ab, cb, rfl, hst, hfb, hg5⟩
                have HFb : Hid (∀ q, ab = some q → w.heap.size ≤ q.block) := fun q e => Nat.le_trans HI.out.gr.size (hfb q e)
                clear hfb
                have O5 := HI.out.ob.gr hg5
                have R5 := HI.out.rb.gr hg5
                have G5 := Lib.hid (HI.out.gr.trans hg5)
                have HIA5 := Lib.hid (HIA.out.gr hg5)
                have c0 := hg5.keep c0
                clear HI HIA hg5
                have O6 := O5.s0 (.int .i64 L[p2].n)
                have O7 := O6.s2 (.slice ab B.length cb)
                have O8 := O7.s1 (.int .i64 (gd : Int))
                have R8 := ((R5.far ⟨wx.heap.size, 0, none⟩ (.int .i64 L[p2].n) (by simp; omega)).far ⟨wx.heap.size, 2, none⟩ (.slice ab B.length cb) (by simp; omega)).far ⟨wx.heap.size, 1, none⟩ (.int .i64 (gd : Int)) (by simp; omega)
                have S8 := strs_set (strs_set (strs_set hst (.int .i64 L[p2].n) O5.c0 (by simp)) (.slice ab B.length cb) O6.c2 (by simp)) (.int .i64 (gd : Int)) O7.c1 (by simp)
                have I8 := ints_far (ints_far (ints_far HIA5.out ⟨wx.heap.size, 0, none⟩ (.int .i64 L[p2].n) (fun q e => by have := HFr.out q e; simp; omega)) ⟨wx.heap.size, 2, none⟩ (.slice ab B.length cb) (fun q e => by have := HFr.out q e; simp; omega)) ⟨wx.heap.size, 1, none⟩ (.int .i64 (gd : Int)) (fun q e => by have := HFr.out q e; simp; omega)
                have G8 : Hid (Gr w (((w5.setCell ⟨wx.heap.size, 0, none⟩ (.int .i64 L[p2].n)).setCell ⟨wx.heap.size, 2, none⟩ (.slice ab B.length cb)).setCell ⟨wx.heap.size, 1, none⟩ (.int .i64 (gd : Int)))) := ((G5.out.set _ (by simp; omega) _).set _ (by simp; omega) _).set _ (by simp; omega) _
                have FA := fill_all R8 S8 I8 (fun q e => by have := HFr.out q e; omega) L[p2].n gd ab B.length cb (.slice va (Sg.drops L p2).length vc)
                have HFA := Lib.hid FA
                have R8h := Lib.hid R8
                have O8h := Lib.hid O8
                clear FA S8 I8 R8 O8
                obtain ⟨y0, y1, y2, y3, g0, g1, g2, g3, hly⟩ := O5
                obtain ⟨z0, z1, z2, z3, k0, k1, k2, k3, hlz⟩ := O6
                obtain ⟨t0, t1, t2, t3, m0, m1, m2, m3, hlt7⟩ := O7
                generalize hfn : L[p2].n = fn at *
                go_upto_region 27 with fail
                obtain ⟨x0, x1, x2, x3, f0, f1, f2, f3, hlx⟩ := R8h.out
                obtain ⟨v0, v1, v2, v3, _⟩ := O8h.out
                go_wp2
                exact bodyPost_ret (v := .tuple #[.agg #[.int .i64 fn, .int .i64 gd, .slice ab B.length cb, .slice va (Sg.drops L p2).length vc], .int .i64 0]) (by simp [results, Tryz.results34, go_sem, x0, x1, x2, x3]) rfl
                  ⟨ab, cb, va, vc, (by rw [hfn]), HFA.out.1, HFA.out.2, gr_fill G8.out (Nat.le_refl _) _ _ _ _, HFb.out, fun q e => by have := HFr.out q e; omega⟩

          · rw [if_neg r0] at HLw
            have q0 : ((r : Int) == 0) = false := by rw [beq_eq_false_iff_ne]; omega
            by_cases r1 : r = 10
            · subst r1
              rw [if_pos rfl] at HLw
              go_wp2_with fail
              refine (HX.out _).mono ?_
              rintro e w1 ⟨za, zb, rfl, hg1⟩
              go_wp2
              go_roundw
              case rel => exact ⟨p2, by omega, rfl, HLw.out, HG2.out.trans (by repeat (first | exact Gr.refl _ | refine Gr.alloc ?_ | refine Gr.drew ?_ | refine Gr.trans ?_ (by assumption)))⟩
              case measure => simp [intOf]
            · rw [if_neg r1] at HLw
              have q1 : ((r : Int) != 10) = true := by rw [bne_iff_ne]; omega
              exfalso
              have := HLw.out
              rw [hw] at this
              simp at this
              try omega
theorem rlook_any (L : List Fl) (ad : Option Addr) (cap : Nat) (w : World) (hL : FsAt w ad cap L) :
    Calls Tryz.prog 34 #[.slice ad L.length cap] w fun e w' => LkR (Sg.look L) w e w' := by
  rcases hr : Sg.rise L with _ | _
  · rw [show Sg.look L = Sg.bad 2 by unfold Sg.look; rw [hr]; rfl]
    exact rlook_rise L ad cap w hL hr
  · rcases Sg.lw_range L L.length with (h | h) | ⟨p, hp, h, _⟩
    · rw [show Sg.look L = ⟨-1, 0, [], Sg.nums L, 0⟩ by unfold Sg.look; rw [hr, h]; rfl]
      exact rlook_none L ad cap w hL hr h
    · rw [show Sg.look L = Sg.bad 170 by unfold Sg.look; rw [hr, h]; rfl]
      exact rlook_bad L ad cap w hL hr h
    · have hlk : Sg.look L = Sg.found L p := by
        unfold Sg.look
        rw [hr, h, if_pos rfl, if_pos rfl, if_neg (by show ¬ ((p : Int) = -1); omega)]
        rfl
      rw [hlk]
      unfold Sg.found
      rw [Sg.at_eq L p hp]
      obtain ⟨⟨B, gd, er⟩, hc⟩ : ∃ r, Sg.cut L[p] = r := ⟨_, rfl⟩
      rw [hc]
      simp only
      by_cases e0 : er = 0
      · subst e0
        rw [if_pos (Or.inl rfl)]
        exact rlook_all L ad cap w hL hr p hp h B gd hc
      · by_cases e1 : er = 10
        · subst e1
          rw [if_pos (Or.inr rfl)]
          exact rlook_torn L ad cap w hL hr p hp h B gd hc
        · rw [if_neg (by omega)]
          exact rlook_wrong L ad cap w hL hr p hp h B gd er e0 e1 hc
end Go.Proofs.YtojmhhmpmpbpfaaGreatDoor
