/- ledger: Net. -/
import Derived.Test.YtiakajheoajepaaNetB
import Derived.Test.YtiakajheoajepaaLedQ
import Derived.Test.YtiakajheoajepaaLedH
namespace Go.Proofs.Ytiakajheoajepaa
open Go.RowKit
open Led (Acc Mk)

/- the marks of an account that are in effect, of keys that begin so -/
def effB (s a : ByteArray) (m : Mk) : Bool := decide (m.t = s) && !decide (m.st = 2) && Lib.hasPrefix m.key.data.toList a.data.toList
def fsL (s a : ByteArray) (M : List Mk) : List Int := (M.filter (effB s a)).map Led.amF
def ksL (s a : ByteArray) (M : List Mk) : List Int := (M.filter (effB s a)).map Led.amK
theorem eff_iff (s a : ByteArray) (m : Mk) : effB s a m = true ↔ m.t = s ∧ m.st ≠ 2 ∧ Lib.hasPrefix m.key.data.toList a.data.toList = true := by
  unfold effB
  simp only [Bool.and_eq_true, decide_eq_true_eq, Bool.not_eq_true', decide_eq_false_iff_not]
  constructor
  · rintro ⟨⟨a, b⟩, c⟩; exact ⟨a, b, c⟩
  · rintro ⟨a, b, c⟩; exact ⟨⟨a, b⟩, c⟩
theorem fs_yes {s a : ByteArray} {M : List Mk} {k : Nat} (h : k < M.length) (he : effB s a M[k] = true) : fsL s a (M.take (k + 1)) = fsL s a (M.take k) ++ [Led.amF M[k]] ∧ ksL s a (M.take (k + 1)) = ksL s a (M.take k) ++ [Led.amK M[k]] := by
  unfold fsL ksL
  rw [List.take_succ_eq_append_getElem h, List.filter_append]
  simp [he]
theorem fs_not {s a : ByteArray} {M : List Mk} {k : Nat} (h : k < M.length) (he : ¬ effB s a M[k] = true) : fsL s a (M.take (k + 1)) = fsL s a (M.take k) ∧ ksL s a (M.take (k + 1)) = ksL s a (M.take k) := by
  unfold fsL ksL
  rw [List.take_succ_eq_append_getElem h, List.filter_append]
  simp [he]
theorem fs_len (s a : ByteArray) (M : List Mk) : (fsL s a M).length ≤ M.length ∧ (ksL s a M).length ≤ M.length := by
  unfold fsL ksL
  rw [List.length_map, List.length_map]
  exact ⟨List.length_filter_le _ _, List.length_filter_le _ _⟩
theorem own_none (w : World) (base : Nat) (e : TypeId) (size : Nat) : w.ownsRow base e size (.slice none 0 0) 0 [] := ⟨by simp, Or.inl ⟨rfl, rfl⟩⟩
theorem sum_within {l : List Int} (B : Int) (h : ∀ a ∈ l, -B ≤ a ∧ a ≤ B) : -(B * l.length) ≤ Csh.sumE l ∧ Csh.sumE l ≤ B * l.length := by
  induction l with
  | nil => simp [Csh.sumE]
  | cons x t ih =>
    have h1 := h x (by simp)
    have h2 := ih (fun a ha => h a (by simp [ha]))
    rw [Csh.sum_cons, List.length_cons, Int.natCast_succ, Int.mul_add, Int.mul_one]
    omega
theorem fs_rng {A : List Acc} {M : List Mk} (s a : ByteArray) (hok : ∀ m ∈ M, Led.mkOk A m = true) : (∀ x ∈ fsL s a M, -1000000000000000 ≤ x ∧ x ≤ 1000000000000000) ∧ (∀ x ∈ ksL s a M, -1000000000000000 ≤ x ∧ x ≤ 1000000000000000) := by
  unfold fsL ksL
  refine ⟨fun x hx => ?_, fun x hx => ?_⟩
  · obtain ⟨m, hm, rfl⟩ := List.mem_map.1 hx
    exact (Led.am_rng ((Led.mk_iff A m).1 (hok m (List.mem_filter.1 hm).1)).2.1).1
  · obtain ⟨m, hm, rfl⟩ := List.mem_map.1 hx
    exact (Led.am_rng ((Led.mk_iff A m).1 (hok m (List.mem_filter.1 hm).1)).2.1).2

set_option maxHeartbeats 4000000 in
set_option maxRecDepth 100000 in
theorem changesN_any (A : List Acc) (M : List Mk) (ad : Option Addr) (cap N H F1 F2 base : Nat) (s a : ByteArray) (w0 w : World) (hM : MksAt w0 ad M) (hmk : Led.mksB A M = true)
    (hN : w0.cell? ⟨N, 0, none⟩ = some (.string s)) (hH : w0.cell? ⟨H, 0, none⟩ = some (.string a)) (hF1 : w0.heap.size ≤ F1) (hF2 : w0.heap.size ≤ F2) (hg : Gr w0 w) (hf : NetM w base F1 F2 (.slice none 0 0) (.slice none 0 0) (.slice none 0 0) (.slice none 0 0) [] []) :
    Calls Try.prog 33 #[.slice ad M.length cap, .func (.func 34) #[] #[.pointer (some ⟨N, 0, none⟩), .pointer (some ⟨H, 0, none⟩), .pointer (some ⟨F1, 0, none⟩), .pointer (some ⟨F2, 0, none⟩)]] w fun e w' => e = .returned (.tuple #[]) ∧ (∃ u1 u2, NetM w' base F1 F2 u1 u2 u1 u2 (fsL s a M) (ksL s a M)) ∧ Gr w0 w' := by
  obtain ⟨hl5, hok, hup⟩ := (Led.mks_iff A M).1 hmk
  have HL : Hid (MksAt w0 ad M) := hM
  have HD : Hid (∀ m w', m ∈ M → Calls Try.prog 29 #[.agg #[.int .i64 m.k, .string m.t, .int .i64 m.n]] w' fun e w2 => e = .returned (.tuple #[.int .i64 (Led.amF m), .int .i64 (Led.amK m)]) ∧ Gr w' w2) := by
    intro m w' hm
    obtain ⟨_, h2, _⟩ := (Led.mk_iff A m).1 (hok m hm)
    have h16 := (Act.name_pos ((Act.act_iff _ _ _).1 h2).2.1).2
    exact delta_any m.k m.n m.t w' (by omega)
  have HC : Hid (∀ (k : Nat) (h : k < M.length) w', Gr w0 w' → (∃ u1 u2, NetM w' base F1 F2 u1 u2 u1 u2 (fsL s a (M.take k)) (ksL s a (M.take k))) → Calls Try.prog 34 #[.agg #[.string M[k].key, .int .i64 M[k].k, .string M[k].t, .int .i64 M[k].n, .int .i64 M[k].st], .int .i64 (Led.amF M[k]), .int .i64 (Led.amK M[k]), .pointer (some ⟨N, 0, none⟩), .pointer (some ⟨H, 0, none⟩), .pointer (some ⟨F1, 0, none⟩), .pointer (some ⟨F2, 0, none⟩)] w' fun e w2 => e = .returned (.tuple #[]) ∧ (∃ u1 u2, NetM w2 base F1 F2 u1 u2 u1 u2 (fsL s a (M.take (k + 1))) (ksL s a (M.take (k + 1)))) ∧ Gr w0 w2) := by
    intro k h w' g ⟨u1, u2, hn⟩
    by_cases he : effB s a M[k] = true
    · obtain ⟨e1, e2, e3⟩ := (eff_iff _ _ _).1 he
      rw [(fs_yes h he).1, (fs_yes h he).2]
      have hlen := fs_len s a (M.take k)
      rw [List.length_take] at hlen
      exact net1_yes M[k] _ _ N H F1 F2 base s a u1 u2 _ _ w0 w' hN hH g hn hF1 hF2 e1 e2 e3 (by omega)
    · rw [(fs_not h he).1, (fs_not h he).2]
      exact net1_not M[k] _ _ N H F1 F2 base s a u1 u2 _ _ w0 w' hN hH g hn (fun hh => he ((eff_iff _ _ _).2 hh))
  have HS : Hid (∃ u1 u2, NetM w base F1 F2 u1 u2 u1 u2 (fsL s a (M.take 0)) (ksL s a (M.take 0))) := ⟨_, _, hf⟩
  have HG : Hid (Gr w0 w) := hg
  clear hM hmk hN hH hg hf hok hup
  go_enter Try.func33, Try.ntmps33
  go_wp2
  go_loopw [10] (fun s10 wr => ∃ k : Nat, s10 = .int .i64 k ∧ k ≤ M.length ∧ (∃ u1 u2, NetM wr base F1 F2 u1 u2 u1 u2 (fsL s a (M.take k)) (ksL s a (M.take k))) ∧ Gr w0 wr) (fun s10 _ => M.length - (intOf s10).toNat)
  case atStart => exact ⟨0, rfl, Nat.zero_le _, HS.out, HG.out⟩
  case round =>
    clear HS HG
    obtain ⟨k, rfl, hk, ha, hg⟩ := hrel
    have HAr : Hid (∃ u1 u2, NetM wr base F1 F2 u1 u2 u1 u2 (fsL s a (M.take k)) (ksL s a (M.take k))) := ha
    have HG : Hid (Gr w0 wr) := hg
    clear ha hg
    by_cases hlt : k < M.length
    · obtain ⟨b, off, rfl, hb, d0, d1, d2, d3, d4⟩ := (MksAt.at HL.out k hlt)
      have d0 := HG.out.keep d0
      have d1 := HG.out.keep d1
      have d2 := HG.out.keep d2
      have d3 := HG.out.keep d3
      have d4 := HG.out.keep d4
      have hbw : b < wr.heap.size := Nat.lt_of_lt_of_le hb HG.out.size
      have hki : (k : Int) < (M.length : Int) := by omega
      have hD := fun w' => HD.out M[k] w' (List.getElem_mem hlt)
      have hC := HC.out k hlt
      clear HC HD
      generalize Led.amF M[k] = fr at *
      generalize Led.amK M[k] = kp at *
      generalize M[k] = x at *
      have HD1 : Hid (∀ w', Calls Try.prog 29 #[.agg #[.int .i64 x.k, .string x.t, .int .i64 x.n]] w' fun e w2 => e = .returned (.tuple #[.int .i64 fr, .int .i64 kp]) ∧ Gr w' w2) := hD
      have HC1 : Hid (∀ w', Gr w0 w' → (∃ u1 u2, NetM w' base F1 F2 u1 u2 u1 u2 (fsL s a (M.take k)) (ksL s a (M.take k))) → Calls Try.prog 34 #[.agg #[.string x.key, .int .i64 x.k, .string x.t, .int .i64 x.n, .int .i64 x.st], .int .i64 fr, .int .i64 kp, .pointer (some ⟨N, 0, none⟩), .pointer (some ⟨H, 0, none⟩), .pointer (some ⟨F1, 0, none⟩), .pointer (some ⟨F2, 0, none⟩)] w' fun e w2 => e = .returned (.tuple #[]) ∧ (∃ u1 u2, NetM w2 base F1 F2 u1 u2 u1 u2 (fsL s a (M.take (k + 1))) (ksL s a (M.take (k + 1)))) ∧ Gr w0 w2) := hC
      clear hD hC
      go_wp2_with fail
      refine (HD1.out _).mono ?_
      rintro e w1 ⟨rfl, hg1⟩
      obtain ⟨b0, b1, b2, b3, b4, _, b6⟩ := (FiveAt.new wr _ _ _ _ _ _ wr.heap.size rfl).gr hg1
      have HG1 : Hid (Gr w0 w1) := HG.out.alloc.trans hg1
      have HAr1 : Hid (∃ u1 u2, NetM w1 base F1 F2 u1 u2 u1 u2 (fsL s a (M.take k)) (ksL s a (M.take k))) := by
        obtain ⟨u1, u2, hn⟩ := HAr.out
        exact ⟨u1, u2, hn.gr ((Gr.refl wr).alloc.trans hg1)⟩
      clear hg1 HG HAr d0 d1 d2 d3 d4
      go_wp2_with fail
      refine (HC1.out _ HG1.out HAr1.out).mono ?_
      rintro e w2 ⟨rfl, ha2, hg2⟩
      have HG2 : Hid (Gr w0 w2) := hg2
      have HAr2 : Hid (∃ u1 u2, NetM w2 base F1 F2 u1 u2 u1 u2 (fsL s a (M.take (k + 1))) (ksL s a (M.take (k + 1)))) := ha2
      clear ha2 hg2
      go_wp2
      go_roundw
      case rel => exact ⟨k + 1, by go_num, by omega, HAr2.out, HG2.out⟩
      case measure => simp [intOf]; omega
    · have hge : ¬ ((k : Int) < (M.length : Int)) := by omega
      obtain rfl : k = M.length := by omega
      have HE : Hid (∃ u1 u2, NetM wr base F1 F2 u1 u2 u1 u2 (fsL s a M) (ksL s a M)) := by have := HAr.out; rw [List.take_length] at this; exact this
      go_wp2
      go_end0
      exact ⟨rfl, HE.out, HG.out⟩
end Go.Proofs.Ytiakajheoajepaa
