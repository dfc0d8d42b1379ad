
/- disk: Used. -/
import Derived.Test.YtpnlebegenkdkaaDkF
namespace Go.Proofs.Ytpnlebegenkdkaa
open Go.RowKit Go.Maps
open Dk (Fl Fo St Ok Up zf emp used cutF one fallA kf)
variable {w w' : World} {b m : Nat} {A : Nat → Int} {s : St}

theorem Gr.grow {a w w' : World} {r : Option Nat} (h : Gr a w) (g : w.grownBy w' r) (hr : ∀ j, r = some j → a.heap.size ≤ j) : Gr a w' := ⟨h.below.grown g h.size hr⟩
/- how many bytes are still to come -/
def sumL (left : Lit → Bool) (L : List Fl) : Nat := ((L.filter (fun f => left (kL f.n))).map (fun f => f.d.size)).sum
theorem sumL_all {D : DataW Unit} {L : List Fl} (r : Rep D L) : sumL (Maps.has D) L = used L := by
  unfold sumL used
  rw [List.filter_eq_self.2 (fun f hf => by rw [r.has]; exact Dk.has_of hf)]
theorem sumL_none {left : Lit → Bool} (h : ∀ k, left k = false) (L : List Fl) : sumL left L = 0 := by
  unfold sumL
  rw [List.filter_eq_nil_iff.2 (fun f _ => by rw [h]; simp)]
  rfl
theorem same_lit (a c : Int) : (kL a).sameKey (kL c) = decide (a = c) := by
  by_cases h : a = c
  · simp [Lit.sameKey, h]
  · simp [Lit.sameKey, h]
theorem sumL_step {left : Lit → Bool} {L : List Fl} (hu : Up L) {f : Fl} (hf : f ∈ L) (hl : left (kL f.n) = true) : sumL left L = f.d.size + sumL (fun z => left z && !z.sameKey (kL f.n)) L := by
  induction L with
  | nil => cases hf
  | cons x t ih =>
    obtain ⟨h1, h2⟩ := List.pairwise_cons.1 hu
    have cons : ∀ l : Lit → Bool, sumL l (x :: t) = (if l (kL x.n) then x.d.size else 0) + sumL l t := by
      intro l
      unfold sumL
      cases e : l (kL x.n) with
      | true => rw [List.filter_cons_of_pos (by exact e)]; simp
      | false => rw [List.filter_cons_of_neg (by rw [e]; simp)]; simp
    rw [cons, cons]
    rcases List.mem_cons.1 hf with rfl | hf
    · have e : sumL (fun z => left z && !z.sameKey (kL f.n)) t = sumL left t := by
        unfold sumL
        congr 2
        refine List.filter_congr fun y hy => ?_
        have := h1 y hy
        show (left (kL y.n) && !(kL y.n).sameKey (kL f.n)) = left (kL y.n)
        rw [same_lit, decide_eq_false (by omega)]
        simp
      rw [e, hl, same_lit]
      simp
    · have := h1 f hf
      rw [ih h2 hf, same_lit, decide_eq_false (by omega)]
      simp
      omega
theorem rep_get {D : DataW Unit} {L : List Fl} (r : Rep D L) (x : Int) (c : Fl) (h : ∀ z, D.atKey (kL x) z = flD c) : c ∈ L ∧ c.n = x := by
  have hh : Dk.has L x = true := by rw [← r.has]; exact has_true_of_atKey h
  obtain ⟨g1, g2⟩ := Dk.get_mem hh
  have h1 := r.at_ _ g1 (flD c)
  rw [g2, h (flD c)] at h1
  rw [flD_inj h1]
  exact ⟨g1, g2⟩
set_option maxHeartbeats 4000000 in
set_option maxRecDepth 100000 in
theorem used_any (h : DAt w b m A s) : Calls Try.prog 26 #[ptr b] w fun e w' => e = .returned (.int .i64 (used s.L : Int)) ∧ Gr w w' := by
  have hN := isNone_any h
  have h1 := h.mp
  obtain ⟨D, hown, r⟩ := h.fl
  have HU : Hid (Up s.L) := h.ok.up
  have HS0 : Hid (sumL (Maps.has D) s.L = used s.L) := sumL_all r
  have HB : Hid (used s.L ≤ 200000) := by have := h.ok.fits; have := h.ok.r1; show used s.L ≤ 200000; omega
  have HRp : Hid (Rep D s.L) := r
  generalize s.L.length = ll at hown
  clear h r
  go_enter Try.func26, Try.ntmps26
  go_wp2_with (first
    | (go_at_call 51; refine hN.mono ?_; rintro e w' ⟨rfl, hw⟩; obtain rfl := hw.symm; clear hw)
    | (at_range; refine wpList_range_own _ rfl _ 44 rfl 3 40 intLaw Try.underlying44 _ m ll _ rfl hown ?_; intro w0 hrg0 hg0 hs0)
    | go_in)
  go_frame
  clear hs0
  go_loopw [3, 5] (fun i _ wr => ∃ (left : Lit → Bool) (cnt : Nat) (a : Nat), i = .int .i64 (a : Int) ∧ wr.ranges Try.prog 3 flE m w.heap.size ll D left cnt ∧ a + sumL left s.L = used s.L ∧ Gr w wr)
    (fun _ _ wr => wr.rangeLeft m w.heap.size)
  case atStart => exact ⟨_, _, 0, rfl, hrg0, by rw [Nat.zero_add]; exact HS0.out, (Gr.refl w).grow hg0 (fun j hj => by cases hj)⟩
  case round =>
    obtain ⟨left, cnt, a, rfl, hrg, hs, hg⟩ := hrel
    have HSm : Hid (a + sumL left s.L = used s.L) := hs
    have HG : Hid (Gr w wr) := hg
    have HR := Lib.hid hrg
    clear hs hg hg0 hrg0 hown HS0
    go_wp2_with (first
      | (at_next; refine wpList_next_ranges _ rfl _ rfl 3 intLaw flE (Value.int .i64) (fun f : Int × ByteArray × Int => .agg #[.int .i64 f.1, .string f.2.1, .int .i64 f.2.2]) (fun key kl hk => by obtain ⟨x, hx, _⟩ := Maps.keyOf_i64 Try.underlying3 hk; exact ⟨x, hx⟩) (fun v y hv => by obtain ⟨c, rfl, _⟩ := flE_inv hv; exact ⟨(c.n, c.d, c.y), rfl⟩) m w.heap.size ll _ _ _ rfl hrg ?_ ?_)
      | go_in)
    · intro hc0 hl0
      have HE : Hid (a = used s.L) := by have h1 := HSm.out; rw [sumL_none hl0] at h1; exact h1
      clear hl0 hc0
      go_wp2
      go_ret
      exact ⟨by rw [HE.out]; rfl, HG.out⟩
    · intro x cn cd cy kl yd yp w2 cnt2 hkey hlk hv hat hrg2 hlt hg2 hs2 hen
      obtain ⟨x', ex, rfl, _⟩ := Maps.keyOf_i64 Try.underlying3 hkey
      obtain rfl : x = x' := encZ_inj ex
      have hv' : flE (flV ⟨cn, cd, cy⟩) = some (yd, yp) := hv
      rw [flE_mk] at hv'
      cases hv'
      obtain ⟨q1, q2⟩ := rep_get HRp.out x ⟨cn, cd, cy⟩ hat
      simp only at q2
      subst q2
      have HT := Lib.hid (sumL_step HU.out q1 hlk)
      have HG2 : Hid (Gr w w2) := HG.out.grow hg2 (fun j hj => by cases hj; exact Nat.le_refl _)
      have HR2 := Lib.hid hrg2
      have HLT : Hid (cnt2 < cnt) := hlt
      have hcs : (a : Int) + (cd.size : Int) ≤ 200000 := by have := HT.out; have := HSm.out; have := HB.out; simp only at *; omega
      clear hkey hlk hv hat hrg2 hlt hg2 hs2 hrg q1 ex
      go_wp2
      go_roundw
      case rel => exact ⟨fun z => left z && !z.sameKey (kL cn), cnt2, a + cd.size, by simp, HR2.out.alloc _, by (have t1 := HT.out; have t2 := HSm.out; simp only at t1; omega), HG2.out.alloc⟩
      case measure => rw [(HR2.out.alloc _).left_eq, HR.out.left_eq]; exact HLT.out
end Go.Proofs.Ytpnlebegenkdkaa
