/- Parts of these proofs, laid together. -/
import Derived.Test.YthfbpilfdfploaaGA
import Derived.WalkSmall
import Derived.BigQuiet
import Derived.Lib.Hide
import Derived.Test.YthfbpilfdfploaaGB
import Derived.Deep.RegionHeld3
import Derived.Test.YthfbpilfdfploaaShelf
namespace Go.Proofs.Ythfbpilfdfploaa.Wn

structure Wd where
  low : Int
  seen : List Int
/- rising, above p, at most hi -/
def rise (p hi : Int) : List Int → Bool
  | [] => true
  | n :: r => decide (p < n) && decide (n ≤ hi) && rise n hi r
def may (w : Wd) : Bool := decide (0 ≤ w.low ∧ w.low ≤ 1000000000) && rise (w.low + 1) (w.low + 16) w.seen
def has (w : Wd) (n : Int) : Bool := decide (n ∈ w.seen) || decide (1 ≤ n ∧ n ≤ w.low)
def Up (l : List Int) : Prop := l.Pairwise (· < ·)
theorem rise_iff : ∀ (l : List Int) (p hi : Int), rise p hi l = true ↔ Up l ∧ ∀ n ∈ l, p < n ∧ n ≤ hi
  | [], p, hi => by simp [rise, Up]
  | x :: r, p, hi => by
    have ih := rise_iff r x hi
    simp only [rise, Bool.and_eq_true, decide_eq_true_eq, ih, Up, List.pairwise_cons, List.mem_cons]
    constructor
    · rintro ⟨⟨h1, h2⟩, h3, h4⟩
      refine ⟨⟨fun y hy => (h4 y hy).1, h3⟩, ?_⟩
      rintro n (rfl | hn)
      · exact ⟨h1, h2⟩
      · have := h4 n hn; exact ⟨by omega, this.2⟩
    · rintro ⟨⟨h1, h2⟩, h3⟩
      have hx := h3 x (Or.inl rfl)
      exact ⟨hx, h2, fun n hn => ⟨h1 n hn, (h3 n (Or.inr hn)).2⟩⟩
theorem may_iff (w : Wd) : may w = true ↔ (0 ≤ w.low ∧ w.low ≤ 1000000000) ∧ Up w.seen ∧ ∀ n ∈ w.seen, w.low + 1 < n ∧ n ≤ w.low + 16 := by
  unfold may
  rw [Bool.and_eq_true, decide_eq_true_eq, rise_iff]
theorem has_iff (w : Wd) (n : Int) : has w n = true ↔ n ∈ w.seen ∨ (1 ≤ n ∧ n ≤ w.low) := by
  simp [has]
/- two rising rows of the same numbers are one -/
theorem up_ext : ∀ (a b : List Int), Up a → Up b → (∀ n, n ∈ a ↔ n ∈ b) → a = b
  | [], [], _, _, _ => rfl
  | [], y :: s, _, _, h => by have := (h y).2 (by simp); cases this
  | x :: r, [], _, _, h => by have := (h x).1 (by simp); cases this
  | x :: r, y :: s, ha, hb, h => by
    obtain ⟨ha1, ha2⟩ := List.pairwise_cons.1 ha
    obtain ⟨hb1, hb2⟩ := List.pairwise_cons.1 hb
    have hxy : x = y := by
      have h1 := (h x).1 (by simp)
      have h2 := (h y).2 (by simp)
      rcases List.mem_cons.1 h1 with e | e
      · exact e
      · rcases List.mem_cons.1 h2 with e2 | e2
        · exact e2.symm
        · have := hb1 x e; have := ha1 y e2; omega
    subst hxy
    rw [up_ext r s ha2 hb2 (fun n => ?_)]
    constructor
    · intro hn
      rcases List.mem_cons.1 ((h n).1 (List.mem_cons_of_mem _ hn)) with e | e
      · have := ha1 n hn; omega
      · exact e
    · intro hn
      rcases List.mem_cons.1 ((h n).2 (List.mem_cons_of_mem _ hn)) with e | e
      · have := hb1 n hn; omega
      · exact e
/- a number is laid into a rising row -/
def ins (q : Int) : List Int → List Int
  | [] => [q]
  | x :: r => if q < x then q :: x :: r else if q = x then x :: r else x :: ins q r
theorem mem_ins (q n : Int) : ∀ l : List Int, n ∈ ins q l ↔ n = q ∨ n ∈ l
  | [] => by simp [ins]
  | x :: r => by
    unfold ins
    split
    · simp
    · split
      · rename_i h1 h2; subst h2; simp
      · simp only [List.mem_cons, mem_ins q n r]
        constructor
        · rintro (h | h | h)
          · exact Or.inr (Or.inl h)
          · exact Or.inl h
          · exact Or.inr (Or.inr h)
        · rintro (h | h | h)
          · exact Or.inr (Or.inl h)
          · exact Or.inl h
          · exact Or.inr (Or.inr h)
theorem up_ins (q : Int) : ∀ l : List Int, Up l → Up (ins q l)
  | [], _ => by simp [ins, Up]
  | x :: r, h => by
    obtain ⟨h1, h2⟩ := List.pairwise_cons.1 h
    unfold ins
    split
    · rename_i hq
      refine List.pairwise_cons.2 ⟨fun y hy => ?_, h⟩
      rcases List.mem_cons.1 hy with rfl | hy
      · exact hq
      · have := h1 y hy; omega
    · split
      · exact h
      · rename_i n1 n2
        refine List.pairwise_cons.2 ⟨fun y hy => ?_, up_ins q r h2⟩
        rcases (mem_ins q y r).1 hy with rfl | hy
        · omega
        · exact h1 y hy
theorem ins_len (q : Int) : ∀ l : List Int, q ∉ l → (ins q l).length = l.length + 1
  | [], _ => rfl
  | x :: r, h => by
    have h1 : q ≠ x := fun e => h (by simp [e])
    have h2 : q ∉ r := fun e => h (by simp [e])
    unfold ins
    split
    · rfl
    · simp [ins_len q r h2]
/- the numbers from a to b -/
def rng (a b : Int) : List Int := (List.range (b + 1 - a).toNat).map (fun i : Nat => a + (i : Int))
theorem mem_rng (a b n : Int) : n ∈ rng a b ↔ a ≤ n ∧ n ≤ b := by
  unfold rng
  simp only [List.mem_map, List.mem_range]
  constructor
  · rintro ⟨i, hi, rfl⟩; omega
  · rintro ⟨h1, h2⟩; exact ⟨(n - a).toNat, by omega, by omega⟩
theorem up_rng (a b : Int) : Up (rng a b) := by
  unfold rng Up
  rw [List.pairwise_map]
  exact List.pairwise_lt_range.imp (fun h => by omega)
theorem len_rng (a b : Int) : (rng a b).length = (b + 1 - a).toNat := by simp [rng]
/- w' has taken just what w has, and q -/
structure Took (w : Wd) (q : Int) (w' : Wd) : Prop where
  low0 : 0 ≤ w'.low
  up : Up w'.seen
  ab : ∀ n ∈ w'.seen, w'.low + 1 < n
  has : ∀ n, has w' n = true ↔ (has w n = true ∨ n = q)
theorem low_le {a b : Wd} (hb : ∀ n ∈ b.seen, b.low + 1 < n) (hb0 : 0 ≤ b.low) (h : ∀ n, has a n = true → has b n = true) : a.low ≤ b.low := by
  by_cases c : a.low ≤ b.low
  · exact c
  · have h1 := h (b.low + 1) ((has_iff _ _).2 (Or.inr ⟨by omega, by omega⟩))
    rcases (has_iff _ _).1 h1 with h2 | h2
    · have := hb _ h2; omega
    · omega
theorem seen_iff {a : Wd} (ha : ∀ n ∈ a.seen, a.low + 1 < n) (n : Int) : n ∈ a.seen ↔ has a n = true ∧ a.low < n := by
  rw [has_iff]
  constructor
  · intro h; exact ⟨Or.inl h, by have := ha n h; omega⟩
  · rintro ⟨h | h, h2⟩
    · exact h
    · omega
theorem took_one {w : Wd} {q : Int} {a b : Wd} (ha : Took w q a) (hb : Took w q b) : a = b := by
  have hab : ∀ n, has a n = true ↔ has b n = true := fun n => (ha.has n).trans (hb.has n).symm
  have h1 := low_le hb.ab hb.low0 (fun n => (hab n).1)
  have h2 := low_le ha.ab ha.low0 (fun n => (hab n).2)
  have e : a.low = b.low := by omega
  have e2 : a.seen = b.seen := up_ext _ _ ha.up hb.up (fun n => by rw [seen_iff ha.ab, seen_iff hb.ab, hab n, e])
  cases a; cases b
  simp only at e e2
  rw [e, e2]
/- Low goes up as long as the next one was taken -/
def up (h : Int → Bool) : Nat → Int → Int
  | 0, l => l
  | f + 1, l => if h (l + 1) = true then up h f (l + 1) else l
theorem up_spec (h : Int → Bool) : ∀ (f : Nat) (l : Int), l ≤ up h f l ∧ up h f l ≤ l + f ∧ (∀ n, l < n → n ≤ up h f l → h n = true) ∧ (up h f l < l + f → h (up h f l + 1) = false)
  | 0, l => ⟨Int.le_refl _, by simp [up], fun n h1 h2 => by simp only [up] at h2; omega, fun h1 => by simp only [up] at h1; omega⟩
  | f + 1, l => by
    have ih := up_spec h f (l + 1)
    unfold up
    by_cases c : h (l + 1) = true
    · rw [if_pos c]
      refine ⟨by omega, by omega, fun n h1 h2 => ?_, fun h1 => ih.2.2.2 (by omega)⟩
      by_cases e : n = l + 1
      · rw [e]; exact c
      · exact ih.2.2.1 n (by omega) h2
    · rw [if_neg c]
      exact ⟨Int.le_refl _, by omega, fun n h1 h2 => by omega, fun _ => by simpa using c⟩
/- the window behind a fresh number, as the document makes it -/
def more (w : Wd) (q : Int) : Wd :=
  ⟨up (fun n => has w n || decide (n = q)) 17 w.low, (rng (up (fun n => has w n || decide (n = q)) 17 w.low + 1) (w.low + 16)).filter (fun n => has w n || decide (n = q))⟩
theorem has_le {w : Wd} (hw : may w = true) {n : Int} (h : has w n = true) : 1 ≤ n ∧ n ≤ w.low + 16 := by
  obtain ⟨h1, _, h3⟩ := (may_iff w).1 hw
  rcases (has_iff _ _).1 h with h | h
  · have := h3 n h; omega
  · omega
theorem more_took {w : Wd} {q : Int} (hw : may w = true) (h1 : 1 ≤ q) (h2 : q ≤ w.low + 16) : Took w q (more w q) := by
  obtain ⟨h0, _, _⟩ := (may_iff w).1 hw
  obtain ⟨s1, s2, s3, s4⟩ := up_spec (fun n => has w n || decide (n = q)) 17 w.low
  have hb : ∀ n, (has w n || decide (n = q)) = true → 1 ≤ n ∧ n ≤ w.low + 16 := by
    intro n hn
    rcases Bool.or_eq_true _ _ ▸ hn with h | h
    · exact has_le hw h
    · have := of_decide_eq_true h; omega
  have hlt : up (fun n => has w n || decide (n = q)) 17 w.low ≤ w.low + 16 := by
    by_cases c : w.low < up (fun n => has w n || decide (n = q)) 17 w.low
    · exact (hb _ (s3 _ c (Int.le_refl _))).2
    · omega
  have hstop := s4 (by omega)
  generalize hL : up (fun n => has w n || decide (n = q)) 17 w.low = L at *
  have hm : more w q = ⟨L, (rng (L + 1) (w.low + 16)).filter (fun n => has w n || decide (n = q))⟩ := by unfold more; rw [hL]
  rw [hm]
  refine ⟨by show 0 ≤ L; omega, (up_rng _ _).filter _, ?_, ?_⟩
  · intro n hn
    obtain ⟨hn1, hn2⟩ := List.mem_filter.1 hn
    have hn3 := (mem_rng _ _ _).1 hn1
    show L + 1 < n
    by_cases e : n = L + 1
    · rw [e] at hn2; have h9 := hstop; rw [show (has w (L + 1) || decide (L + 1 = q)) = true from hn2] at h9; cases h9
    · omega
  · intro n
    rw [has_iff]
    simp only [List.mem_filter, mem_rng, Bool.or_eq_true, decide_eq_true_eq]
    constructor
    · rintro (⟨_, h⟩ | ⟨h3, h4⟩)
      · exact h
      · by_cases c : n ≤ w.low
        · exact Or.inl ((has_iff _ _).2 (Or.inr ⟨h3, c⟩))
        · have := s3 n (by omega) h4
          simpa using this
    · intro h
      have hr := hb n (by simpa using h)
      by_cases c : n ≤ L
      · exact Or.inr ⟨hr.1, c⟩
      · exact Or.inl ⟨⟨by omega, hr.2⟩, h⟩
/- how many were taken -/
def cnt (w : Wd) : Int := w.low + w.seen.length
theorem took_cnt {w : Wd} {q : Int} {a : Wd} (hw : may w = true) (hn : has w q = false) (ha : Took w q a) : cnt a = cnt w + 1 := by
  obtain ⟨h0, hu, hs⟩ := (may_iff w).1 hw
  have row : ∀ x : Wd, 0 ≤ x.low → Up x.seen → (∀ n ∈ x.seen, x.low + 1 < n) → Up (rng 1 x.low ++ x.seen) ∧ (∀ n, n ∈ rng 1 x.low ++ x.seen ↔ has x n = true) ∧ ((rng 1 x.low ++ x.seen).length : Int) = cnt x := by
    intro x h1 h2 h3
    refine ⟨List.pairwise_append.2 ⟨up_rng _ _, h2, fun a ha b hb => ?_⟩, fun n => ?_, ?_⟩
    · have := (mem_rng _ _ _).1 ha; have := h3 b hb; omega
    · rw [List.mem_append, mem_rng, has_iff]
      exact Or.comm
    · rw [List.length_append, len_rng]; unfold cnt; omega
  obtain ⟨w1, w2, w3⟩ := row w h0.1 hu (fun n hn => (hs n hn).1)
  obtain ⟨a1, a2, a3⟩ := row a ha.low0 ha.up ha.ab
  have e : rng 1 a.low ++ a.seen = ins q (rng 1 w.low ++ w.seen) := by
    refine up_ext _ _ a1 (up_ins q _ w1) (fun n => ?_)
    rw [a2, ha.has, mem_ins, w2]
    exact Or.comm
  have hnot : q ∉ rng 1 w.low ++ w.seen := fun h => by rw [(w2 q).1 h] at hn; cases hn
  rw [← a3, ← w3, e, ins_len q _ hnot]
  omega
/- it may be, where Low does not pass its bound -/
theorem took_may {w : Wd} {q : Int} {a : Wd} (hw : may w = true) (h2 : q ≤ w.low + 16) (ha : Took w q a) (hl : a.low ≤ 1000000000) : may a = true := by
  refine (may_iff a).2 ⟨⟨ha.low0, hl⟩, ha.up, fun n hn => ⟨ha.ab n hn, ?_⟩⟩
  have hw0 := (may_iff w).1 hw
  have hle := low_le (a := w) (b := a) ha.ab ha.low0 (fun n hn => (ha.has n).2 (Or.inl hn))
  rcases (ha.has n).1 ((has_iff _ _).2 (Or.inl hn)) with h | h
  · have := has_le hw h; omega
  · omega
theorem took_low {w : Wd} {q : Int} {a : Wd} (ha : Took w q a) : w.low ≤ a.low :=
  low_le ha.ab ha.low0 (fun n hn => (ha.has n).2 (Or.inl hn))
/- Take: the window, whether the number was fresh, the error -/
def take (w : Wd) (q : Int) : Wd × Bool × Int :=
  if may w = true ∧ 1 ≤ q ∧ q ≤ 1000000000 then
    (if w.low + 16 < q then (⟨0, []⟩, false, 180) else if has w q = true then (w, false, 0) else (more w q, true, 0))
  else (⟨0, []⟩, false, 2)
/- All -/
def allF : Wd → Int → List Int → Wd × Int × Int
  | w, n, [] => (w, n, 0)
  | w, n, q :: r => if (take w q).2.2 = 0 then allF (take w q).1 (if (take w q).2.1 = true then n + 1 else n) r else (⟨0, []⟩, 0, (take w q).2.2)
def all (w : Wd) (l : List Int) : Wd × Int × Int := if may w = true then allF w 0 l else (⟨0, []⟩, 0, 2)
/- Missing -/
def last (w : Wd) : Int := w.seen.getLastD 0
def miss (w : Wd) : List Int := if may w = true ∧ w.seen ≠ [] then (rng (w.low + 1) (last w - 1)).filter (fun n => !has w n) else []
end Go.Proofs.Ythfbpilfdfploaa.Wn
namespace Go.Proofs.Ythfbpilfdfploaa
open Go.RowKit
open Wn (Wd)

/- a window as a value, and its row in memory -/
abbrev wdV (l : Int) (ad : Option Addr) (n cap : Nat) : Value := .agg #[.int .i64 l, .slice ad n cap]
structure WdAt (w : World) (ad : Option Addr) (cap : Nat) (W : Wd) : Prop where
  row : IntsAt w ad W.seen
  fits : W.seen.length ≤ cap
  len : W.seen.length ≤ 9223372036854775807
  non : ad = none → cap = 0
  lo0 : -9223372036854775808 ≤ W.low
  lo1 : W.low ≤ 9223372036854775807
theorem WdAt.gr {w w' : World} {ad : Option Addr} {cap : Nat} {W : Wd} (h : WdAt w ad cap W) (g : Gr w w') : WdAt w' ad cap W := ⟨h.row.gr g, h.fits, h.len, h.non, h.lo0, h.lo1⟩
def mayE (W : Wd) : Int := if Wn.may W = true then 0 else 2
theorem rise_at {l : List Int} {k : Nat} (hk : k < l.length) (b hi : Int) : Wn.rise b hi (l.drop k) = (decide (b < l[k]) && decide (l[k] ≤ hi) && Wn.rise l[k] hi (l.drop (k + 1))) := by
  rw [List.drop_eq_getElem_cons hk]; rfl
theorem Gr.dn {a b : World} (h : Gr a b) (q : Nat) : Gr a (b.drewN q) := by
  induction q with
  | zero => exact h
  | succ q ih => exact ih.drew
set_option maxHeartbeats 4000000 in
set_option maxRecDepth 100000 in
theorem may_any (W : Wd) (ad : Option Addr) (cap : Nat) (w : World) (h : WdAt w ad cap W) :
    Calls Try.prog 52 #[wdV W.low ad W.seen.length cap] w fun e w' => e = .returned (.int .i64 (mayE W)) ∧ Gr w w' := by
  obtain ⟨low, l⟩ := W
  obtain ⟨hr, hcap, hcm, hnon, h0, h1⟩ := h
  simp only at *
  have HL := Lib.hid (hr.gr (Gr.refl w).alloc (w' := w.alloc (.cells #[.int .i64 low, .slice ad l.length cap] 37)))
  clear hr
  by_cases c1 : low < 0
  · have HE : Hid (mayE ⟨low, l⟩ = 2) := by show _ = _; unfold mayE Wn.may; rw [if_neg]; simp; omega
    go_enter Try.func52, Try.ntmps52
    go_wp2
    go_ret
    exact ⟨by rw [HE.out]; rfl, (by repeat(first|exact Gr.r _|refine Gr.a ?_|refine Gr.d ?_|refine Gr.t ?_ (by assumption)))⟩
  · by_cases c2 : 1000000000 < low
    · have HE : Hid (mayE ⟨low, l⟩ = 2) := by show _ = _; unfold mayE Wn.may; rw [if_neg]; simp; omega
      go_enter Try.func52, Try.ntmps52
      go_wp2
      go_ret
      exact ⟨by rw [HE.out]; rfl, (by repeat(first|exact Gr.r _|refine Gr.a ?_|refine Gr.d ?_|refine Gr.t ?_ (by assumption)))⟩
    · have HE : Hid (mayE ⟨low, l⟩ = if Wn.rise (low + 1) (low + 16) l = true then 0 else 2) := by
        show _ = _
        unfold mayE Wn.may
        rw [decide_eq_true (show 0 ≤ (⟨low, l⟩ : Wd).low ∧ (⟨low, l⟩ : Wd).low ≤ 1000000000 from ⟨by show 0 ≤ low; omega, by show low ≤ _; omega⟩), Bool.true_and]
      go_enter Try.func52, Try.ntmps52
      go_wp2
      go_loop [3, 20] (fun t i => ∃ (k : Nat) (b : Int), k ≤ l.length ∧ i = .int .i64 k ∧ t = .int .i64 b ∧ Wn.rise (low + 1) (low + 16) l = Wn.rise b (low + 16) (l.drop k)) (fun _ i => l.length - (intOf i).toNat)
      case atStart => exact ⟨0, low + 1, by omega, rfl, by go_num, rfl⟩
      case round =>
        obtain ⟨k, b, hk, rfl, rfl, he⟩ := hrel
        by_cases hlt : k < l.length
        · obtain ⟨x, off, rfl, hbl, hc⟩ := HL.out k hlt
          rw [rise_at hlt] at he
          have HR := Lib.hid he
          clear he
          generalize l[k] = n at *
          by_cases c3 : n ≤ b
          · have HF : Hid (mayE ⟨low, l⟩ = 2) := by
              show _ = _
              rw [HE.out, HR.out, decide_eq_false (by omega)]; rfl
            go_wp2
            go_ret
            exact ⟨by rw [HF.out]; rfl, (by repeat(first|exact Gr.r _|refine Gr.a ?_|refine Gr.d ?_|refine Gr.t ?_ (by assumption)))⟩
          · by_cases c4 : low + 16 < n
            · have HF : Hid (mayE ⟨low, l⟩ = 2) := by
                show _ = _
                rw [HE.out, HR.out, decide_eq_false (show ¬ (n ≤ low + 16) by omega), Bool.and_false]; rfl
              go_wp2
              go_ret
              exact ⟨by rw [HF.out]; rfl, (by repeat(first|exact Gr.r _|refine Gr.a ?_|refine Gr.d ?_|refine Gr.t ?_ (by assumption)))⟩
            · go_wp2
              go_round
              case rel => exact ⟨k + 1, n, by omega, by go_num, rfl, by rw [HR.out, decide_eq_true (by omega), decide_eq_true (by omega)]; rfl⟩
              case measure => simp [intOf]; omega
        · have HF : Hid (mayE ⟨low, l⟩ = 0) := by
            show _ = _
            rw [HE.out, he, List.drop_eq_nil_of_le (by omega)]; rfl
          clear he
          go_wp2
          go_ret
          exact ⟨by rw [HF.out]; rfl, (by repeat(first|exact Gr.r _|refine Gr.a ?_|refine Gr.d ?_|refine Gr.t ?_ (by assumption)))⟩
end Go.Proofs.Ythfbpilfdfploaa
namespace Go.Proofs.Ythfbpilfdfploaa.Wn

/- how many of a row are below a number -/
def pos (x : Int) (l : List Int) : Nat := l.countP (· < x)
theorem pos_le (x : Int) (l : List Int) : pos x l ≤ l.length := List.countP_le_length
theorem pos_ins (x : Int) : ∀ l : List Int, Up l → x ∉ l → l.take (pos x l) ++ x :: l.drop (pos x l) = ins x l
  | [], _, _ => rfl
  | y :: r, hu, hx => by
    obtain ⟨h1, h2⟩ := List.pairwise_cons.1 hu
    have hxy : x ≠ y := fun e => hx (by simp [e])
    have hxr : x ∉ r := fun e => hx (by simp [e])
    have ih := pos_ins x r h2 hxr
    unfold ins
    by_cases c : y < x
    · have e : pos x (y :: r) = pos x r + 1 := by unfold pos; rw [List.countP_cons_of_pos (by simpa using c)]
      rw [e, if_neg (by omega), if_neg hxy, ← ih]; rfl
    · have e : pos x (y :: r) = 0 := by
        unfold pos
        rw [List.countP_eq_zero]
        intro z hz
        simp only [decide_eq_true_eq]
        rcases List.mem_cons.1 hz with rfl | hz
        · exact c
        · have := h1 z hz; omega
      rw [e, if_pos (by omega)]; rfl
/- Low goes on to the first gap -/
def gon : Int → List Int → Wd
  | low, [] => ⟨low, []⟩
  | low, n :: r => if n = low + 1 then gon n r else ⟨low, n :: r⟩
theorem gon_spec : ∀ (l : List Int) (low : Int), 0 ≤ low → Up l → (∀ n ∈ l, low < n) →
    low ≤ (gon low l).low ∧ Up (gon low l).seen ∧ (∀ n ∈ (gon low l).seen, (gon low l).low + 1 < n) ∧ ∀ n, has (gon low l) n = true ↔ (n ∈ l ∨ (1 ≤ n ∧ n ≤ low))
  | [], low, h0, hu, hl => ⟨Int.le_refl _, hu, fun n hn => by simp [gon] at hn, fun n => by rw [has_iff]; rfl⟩
  | x :: r, low, h0, hu, hl => by
    obtain ⟨h1, h2⟩ := List.pairwise_cons.1 hu
    have hx := hl x (by simp)
    unfold gon
    by_cases c : x = low + 1
    · rw [if_pos c]
      obtain ⟨i1, i2, i3, i4⟩ := gon_spec r x (by omega) h2 h1
      refine ⟨by omega, i2, i3, fun n => ?_⟩
      rw [i4, List.mem_cons]
      constructor
      · rintro (h | h)
        · exact Or.inl (Or.inr h)
        · by_cases e : n = x
          · exact Or.inl (Or.inl e)
          · exact Or.inr ⟨h.1, by omega⟩
      · rintro ((h | h) | h)
        · exact Or.inr ⟨by omega, by omega⟩
        · exact Or.inl h
        · exact Or.inr ⟨h.1, by omega⟩
    · rw [if_neg c]
      refine ⟨Int.le_refl _, hu, fun n hn => ?_, fun n => by rw [has_iff]⟩
      show low + 1 < n
      rcases List.mem_cons.1 hn with rfl | hn
      · omega
      · have := h1 n hn; omega
theorem gon_more {w : Wd} {q : Int} (hw : may w = true) (h1 : 1 ≤ q) (h2 : q ≤ w.low + 16) (hn : has w q = false) : gon w.low (ins q w.seen) = more w q := by
  obtain ⟨⟨h0, _⟩, hu, hs⟩ := (may_iff w).1 hw
  have hq : ¬ (has w q = true) := by rw [hn]; simp
  rw [has_iff] at hq
  obtain ⟨i1, i2, i3, i4⟩ := gon_spec (ins q w.seen) w.low h0 (up_ins q _ hu) (fun n hm => by
    rcases (mem_ins q n w.seen).1 hm with rfl | hm
    · omega
    · have := hs n hm; omega)
  refine took_one (w := w) (q := q) ⟨by omega, i2, i3, fun n => ?_⟩ (more_took hw h1 h2)
  rw [i4, mem_ins, has_iff]
  constructor
  · rintro ((h | h) | h)
    · exact Or.inr h
    · exact Or.inl (Or.inl h)
    · exact Or.inl (Or.inr h)
  · rintro ((h | h) | h)
    · exact Or.inl (Or.inr h)
    · exact Or.inr h
    · exact Or.inl (Or.inl h)
/- how many a window that may be has seen -/
theorem up_len : ∀ (l : List Int) (a b : Int), Up l → (∀ n ∈ l, a < n ∧ n ≤ b) → l.length ≤ (b - a).toNat
  | [], _, _, _, _ => by simp
  | x :: r, a, b, hu, hl => by
    obtain ⟨h1, h2⟩ := List.pairwise_cons.1 hu
    have hx := hl x (by simp)
    have := up_len r x b h2 (fun n hn => ⟨h1 n hn, (hl n (List.mem_cons_of_mem _ hn)).2⟩)
    rw [List.length_cons]; omega
theorem may_len {w : Wd} (hw : may w = true) : w.seen.length ≤ 15 := by
  obtain ⟨_, hu, hs⟩ := (may_iff w).1 hw
  have := up_len w.seen (w.low + 1) (w.low + 16) hu hs
  omega
/- ranges -/
theorem rng_none {a b : Int} (h : b < a) : rng a b = [] := by unfold rng; rw [show (b + 1 - a).toNat = 0 by omega]; rfl
theorem rng_snoc {a b : Int} (h : a ≤ b) : rng a b = rng a (b - 1) ++ [b] := by
  refine up_ext _ _ (up_rng _ _) ?_ (fun n => ?_)
  · refine List.pairwise_append.2 ⟨up_rng _ _, by simp, fun x hx y hy => ?_⟩
    have := (mem_rng _ _ _).1 hx
    simp at hy; omega
  · rw [List.mem_append, mem_rng, mem_rng, List.mem_singleton]; omega
/- what is missing, as the program goes -/
def mis : Int → List Int → List Int
  | _, [] => []
  | a, n :: r => rng a (n - 1) ++ mis (n + 1) r
def lastE (l : List Int) : Int := l.getLastD 0
theorem last_cons (x : Int) (r : List Int) (h : r ≠ []) : lastE (x :: r) = lastE r := by
  cases r with
  | nil => exact absurd rfl h
  | cons y s => simp [lastE, List.getLastD]
theorem last_mem {l : List Int} (h : l ≠ []) : lastE l ∈ l := by
  cases l with
  | nil => exact absurd rfl h
  | cons x r =>
    show (x :: r).getLastD 0 ∈ _
    rw [List.getLastD_cons]
    cases r with
    | nil => simp
    | cons y s => rw [List.getLastD_eq_getLast?]; simp [List.getLast?_eq_some_getLast]
theorem mis_spec : ∀ (l : List Int) (a : Int), Up l → (∀ n ∈ l, a ≤ n) → Up (mis a l) ∧ ∀ n, n ∈ mis a l ↔ (l ≠ [] ∧ a ≤ n ∧ n < lastE l ∧ n ∉ l)
  | [], a, _, _ => ⟨by simp [mis, Up], fun n => by simp [mis]⟩
  | x :: r, a, hu, hl => by
    obtain ⟨h1, h2⟩ := List.pairwise_cons.1 hu
    have hx := hl x (by simp)
    obtain ⟨i1, i2⟩ := mis_spec r (x + 1) h2 (fun n hn => by have := h1 n hn; omega)
    unfold mis
    refine ⟨List.pairwise_append.2 ⟨up_rng _ _, i1, fun y hy z hz => ?_⟩, fun n => ?_⟩
    · have := (mem_rng _ _ _).1 hy
      have := ((i2 z).1 hz).2.1
      omega
    · rw [List.mem_append, mem_rng, i2, List.mem_cons]
      by_cases c : r = []
      · subst c
        have e : lastE [x] = x := rfl
        rw [e]
        simp only [ne_eq, not_true_eq_false, false_and, or_false, List.not_mem_nil]
        constructor
        · rintro ⟨p1, p2⟩; exact ⟨by simp, by omega, by omega, by omega⟩
        · rintro ⟨_, p1, p2, p3⟩; omega
      · rw [last_cons x r c]
        have hm := h1 _ (last_mem c)
        constructor
        · rintro (⟨p1, p2⟩ | ⟨_, p1, p2, p3⟩)
          · refine ⟨by simp, by omega, by omega, ?_⟩
            rintro (p | p)
            · omega
            · have := h1 n p; omega
          · refine ⟨by simp, by omega, by omega, ?_⟩
            rintro (p | p)
            · omega
            · exact p3 p
        · rintro ⟨_, p1, p2, p3⟩
          by_cases d : n ≤ x - 1
          · exact Or.inl ⟨p1, d⟩
          · exact Or.inr ⟨c, by have : n ≠ x := fun e => p3 (Or.inl e); omega, p2, fun e => p3 (Or.inr e)⟩
theorem mis_miss {w : Wd} (hw : may w = true) : mis (w.low + 1) w.seen = miss w := by
  obtain ⟨⟨h0, _⟩, hu, hs⟩ := (may_iff w).1 hw
  obtain ⟨m1, m2⟩ := mis_spec w.seen (w.low + 1) hu (fun n hn => by have := hs n hn; omega)
  unfold miss
  by_cases c : w.seen = []
  · rw [if_neg (by simp [c]), c]; rfl
  · rw [if_pos ⟨hw, c⟩]
    refine up_ext _ _ m1 ((up_rng _ _).filter _) (fun n => ?_)
    rw [m2, List.mem_filter, mem_rng]
    have e : last w = lastE w.seen := rfl
    rw [e, Bool.not_eq_true']
    constructor
    · rintro ⟨_, p1, p2, p3⟩
      refine ⟨⟨p1, by omega⟩, ?_⟩
      unfold has
      rw [decide_eq_false p3, decide_eq_false (by omega)]; rfl
    · rintro ⟨⟨p1, p2⟩, p3⟩
      refine ⟨c, p1, by omega, fun h => ?_⟩
      rw [(has_iff w n).2 (Or.inl h)] at p3; cases p3
theorem miss_bad {w : Wd} (hw : may w = false) : miss w = [] := by unfold miss; rw [if_neg (by rw [hw]; simp)]
theorem miss_len {w : Wd} (hw : may w = true) : (miss w).length ≤ 16 := by
  obtain ⟨⟨h0, _⟩, hu, hs⟩ := (may_iff w).1 hw
  unfold miss
  split
  · rename_i h
    have hl := hs _ (last_mem h.2)
    have e : last w = lastE w.seen := rfl
    have h1 := List.length_filter_le (fun n => !has w n) (rng (w.low + 1) (last w - 1))
    have h2 := len_rng (w.low + 1) (last w - 1)
    omega
  · simp
end Go.Proofs.Ythfbpilfdfploaa.Wn
namespace Go.Proofs.Ythfbpilfdfploaa.Lk
open Wn (Wd)
open Ox (It)

/- a frame: from, to, life, number, the other's life as it is known, what is answered, the note -/
structure Fr (α : Type) where
  f : Int
  t : Int
  e : Int
  s : Int
  a : Int
  c : Int
  n : α
/- a link: who it is, its peer, its life, the peer's life, what is on its way, the next number, the window, whether it owes -/
structure St (α : Type) where
  me : Int
  wi : Int
  ep : Int
  kn : Int
  it : List (It α)
  nx : Int
  wn : Wd
  ow : Bool
/- notes: which may be, their ends, the one that is none; which frames may be -/
structure Ctx (α : Type) where
  ok : α → Bool
  fo : α → Int
  un : α → Int
  z : α
  fm : Fr α → Bool
def newB (me pe ep : Int) : Bool := decide (0 ≤ me ∧ me ≤ 15 ∧ 0 ≤ pe ∧ pe ≤ 15 ∧ me ≠ pe ∧ 1 ≤ ep ∧ ep ≤ 1000000000)
section
variable {α : Type}
def new (me pe ep : Int) : St α := ⟨me, pe, ep, 0, [], 1, ⟨0, []⟩, false⟩
def ends (C : Ctx α) (l : St α) (n : α) : Bool := decide (C.fo n = l.me) && decide (C.un n = l.wi)
def sendE [DecidableEq α] (C : Ctx α) (l : St α) (now : Int) (ns : List α) : Int :=
  if ns.all (ends C l) = true then (Ox.push C.ok l.it l.nx now ns).2 else 130
def sendS [DecidableEq α] (C : Ctx α) (l : St α) (now : Int) (ns : List α) : St α :=
  if sendE C l now ns = 0 then { l with it := (Ox.push C.ok l.it l.nx now ns).1, nx := Ox.next (Ox.push C.ok l.it l.nx now ns).1 l.nx } else l
def frm (l : St α) (q : Int) (n : α) : Fr α := ⟨l.me, l.wi, l.ep, q, l.kn, l.wn.low, n⟩
def tickF [DecidableEq α] (C : Ctx α) (l : St α) (now : Int) : List (Fr α) :=
  if Ox.tmB now = true then
    (if (Ox.dueD C.ok l.it now).isEmpty then (if l.ow then [frm l 0 C.z] else []) else (Ox.dueD C.ok l.it now).map (fun x => frm l x.q x.n))
  else []
def tickS [DecidableEq α] (C : Ctx α) (l : St α) (now : Int) : St α := if Ox.tmB now = true then { l with it := Ox.dueL C.ok l.it now, ow := false } else l
def learn [DecidableEq α] (C : Ctx α) (l : St α) (e now : Int) : St α :=
  if l.kn < e then { l with kn := e, wn := ⟨0, []⟩, it := Ox.anew C.ok l.it now, nx := ((Ox.anew C.ok l.it now).length : Int) + 1 } else l
def hit [DecidableEq α] (C : Ctx α) (l : St α) (c : Int) : St α := { l with it := Ox.ans C.ok l.it c }
def lay (l : St α) (q : Int) : Int × Bool × St α :=
  if (Wn.take l.wn q).2.2 = 0 then (0, (Wn.take l.wn q).2.1, { l with wn := (Wn.take l.wn q).1, ow := true }) else ((Wn.take l.wn q).2.2, false, { l with ow := true })
/- Take: the error, whether a note is handed out, the link -/
def takeR [DecidableEq α] (C : Ctx α) (l : St α) (f : Fr α) (now : Int) : Int × Bool × St α :=
  if C.fm f = true ∧ f.f = l.wi ∧ f.t = l.me then
    (if Ox.tmB now = true then
      (if f.e < l.kn then (200, false, l)
      else if f.a = l.ep then (if f.s = 0 then (0, false, hit C (learn C l f.e now) f.c) else lay (hit C (learn C l f.e now) f.c) f.s)
      else (200, false, { learn C l f.e now with ow := true }))
    else (2, false, l))
  else (130, false, l)
/- what Take does to a link that looks at the frame: three ways -/
theorem take_cases [DecidableEq α] (C : Ctx α) (l : St α) (f : Fr α) (now : Int) :
    ((takeR C l f now).2.1 = false ∧ (takeR C l f now).2.2 = l) ∨
    ((C.fm f = true ∧ f.f = l.wi ∧ f.t = l.me) ∧ Ox.tmB now = true ∧ l.kn ≤ f.e ∧
      ((f.a ≠ l.ep ∧ (takeR C l f now).2.1 = false ∧ (takeR C l f now).2.2 = { learn C l f.e now with ow := true }) ∨
       (f.a = l.ep ∧ f.s = 0 ∧ (takeR C l f now).2.1 = false ∧ (takeR C l f now).2.2 = hit C (learn C l f.e now) f.c) ∨
       (f.a = l.ep ∧ f.s ≠ 0 ∧ takeR C l f now = lay (hit C (learn C l f.e now) f.c) f.s))) := by
  unfold takeR
  by_cases h1 : C.fm f = true ∧ f.f = l.wi ∧ f.t = l.me
  · rw [if_pos h1]
    by_cases h2 : Ox.tmB now = true
    · rw [if_pos h2]
      by_cases h3 : f.e < l.kn
      · rw [if_pos h3]; exact Or.inl ⟨rfl, rfl⟩
      · rw [if_neg h3]
        refine Or.inr ⟨h1, h2, by omega, ?_⟩
        by_cases h4 : f.a = l.ep
        · rw [if_pos h4]
          by_cases h5 : f.s = 0
          · rw [if_pos h5]; exact Or.inr (Or.inl ⟨h4, h5, rfl, rfl⟩)
          · rw [if_neg h5]; exact Or.inr (Or.inr ⟨h4, h5, rfl⟩)
        · rw [if_neg h4]; exact Or.inl ⟨h4, rfl, rfl⟩
    · rw [if_neg h2]; exact Or.inl ⟨rfl, rfl⟩
  · rw [if_neg h1]; exact Or.inl ⟨rfl, rfl⟩
theorem take_looks [DecidableEq α] (C : Ctx α) (l : St α) (f : Fr α) (now : Int) (h1 : C.fm f = true ∧ f.f = l.wi ∧ f.t = l.me) (h2 : Ox.tmB now = true) (h3 : l.kn ≤ f.e) :
    takeR C l f now = if f.a = l.ep then (if f.s = 0 then (0, false, hit C (learn C l f.e now) f.c) else lay (hit C (learn C l f.e now) f.c) f.s) else (200, false, { learn C l f.e now with ow := true }) := by
  unfold takeR
  rw [if_pos h1, if_pos h2, if_neg (by omega)]
theorem take_zero [DecidableEq α] (C : Ctx α) (l : St α) (f : Fr α) (now : Int) (h : (takeR C l f now).2.1 = true) : (takeR C l f now).1 = 0 := by
  rcases take_cases C l f now with ⟨h1, _⟩ | ⟨_, _, _, ⟨_, h1, _⟩ | ⟨_, _, h1, _⟩ | ⟨_, _, h1⟩⟩
  · rw [h1] at h; cases h
  · rw [h1] at h; cases h
  · rw [h1] at h; cases h
  · rw [h1] at h ⊢
    unfold lay at h ⊢
    split
    · rfl
    · rename_i c
      rw [if_neg c] at h; cases h
/- the frames of a tick -/
theorem tick_mem [DecidableEq α] {C : Ctx α} {l : St α} {now : Int} {g : Fr α} (h : g ∈ tickF C l now) :
    Ox.tmB now = true ∧ ((g = frm l 0 C.z ∧ l.ow = true) ∨ ∃ x ∈ Ox.dueD C.ok l.it now, g = frm l x.q x.n) := by
  unfold tickF at h
  by_cases ht : Ox.tmB now = true
  · rw [if_pos ht] at h
    refine ⟨ht, ?_⟩
    split at h
    · split at h
      · rename_i ho
        rw [List.mem_singleton] at h
        exact Or.inl ⟨h, ho⟩
      · cases h
    · obtain ⟨x, hx, rfl⟩ := List.mem_map.1 h
      exact Or.inr ⟨x, hx, rfl⟩
  · rw [if_neg ht] at h; cases h
theorem due_mem [DecidableEq α] {ok : α → Bool} {l : List (It α)} {now : Int} {x : It α} (h : x ∈ Ox.dueD ok l now) : ∃ y ∈ l, y.d ≤ now ∧ x = Ox.tick now y := by
  unfold Ox.dueD at h
  split at h
  · obtain ⟨y, hy, rfl⟩ := List.mem_map.1 h
    obtain ⟨h1, h2⟩ := List.mem_filter.1 hy
    exact ⟨y, h1, of_decide_eq_true h2, rfl⟩
  · cases h
end
end Go.Proofs.Ythfbpilfdfploaa.Lk
namespace Go.Proofs.Ythfbpilfdfploaa
open Go.RowKit
open Lk (St)
open Wn (Wd)

variable {Z : Nat → Prop}
/- notes of links: which may be, their ends, which frames may be -/
def unP (p : Nx) : Nt := ⟨p.1.1, p.1.2.1, p.1.2.2, p.2.1, p.2.2.1, p.2.2.2⟩
def unF (f : Lk.Fr Nx) : Fm := ⟨f.f, f.t, f.e, f.s, f.a, f.c, unP f.n⟩
def CX : Lk.Ctx Nx := ⟨okN, fun p => Nt.ends1 (unP p), fun p => Nt.ends2 (unP p), pk Nt.zeroN, fun f => Nt.frB (unF f)⟩
theorem un_pk (x : Nt) : unP (pk x) = x := rfl
/- another block turns -/
theorem RowAt.gb {α : Type} {f : α → List Value} {b : Nat} {w w' : World} {ad : Option Addr} {L : List α} (h : RowAt f w ad L) (k : GB b w w') (hb : L ≠ [] → ∀ p, ad = some p → p.block ≠ b) : RowAt f w' ad L := by
  intro j u hu
  obtain ⟨g, off, e, hg, h1⟩ := h j u hu
  have hne : g ≠ b := hb (fun k => by rw [k] at hu; simp at hu) _ e
  exact ⟨g, off, e, Nat.lt_of_lt_of_le hg k.size, k.keep hg hne h1⟩
theorem IntsAt.gb {b : Nat} {w w' : World} {ad : Option Addr} {l : List Int} (h : IntsAt w ad l) (k : GB b w w') (hb : l ≠ [] → ∀ p, ad = some p → p.block ≠ b) : IntsAt w' ad l := by
  intro j hj
  obtain ⟨g, o, e, hg, hc⟩ := h j hj
  have hne : g ≠ b := hb (fun k => by rw [k] at hj; simp at hj) _ e
  exact ⟨g, o, e, Nat.lt_of_lt_of_le hg k.size, k.keep hg hne hc⟩
theorem MnAt.gb {b : Nat} {w w' : World} {m : Mn} (h : MnAt Z w m) (k : GB b w w') (hb : ¬ Z b) : MnAt Z w' m :=
  ⟨hops_kept h.hp k.g (fun hn a e kk => hb (by rw [Option.some.inj kk]; exact h.hz hn a e)), h.hl, h.hc, h.hd, h.hz⟩
theorem NtsAt.gb {b : Nat} {w w' : World} {ad : Option Addr} {Q : List Mn} (h : NtsAt Z w ad Q) (k : GB b w w') (hb : ¬ Z b) (hq : Q ≠ [] → ∀ p, ad = some p → Z p.block) : NtsAt Z w' ad Q :=
  ⟨h.row.gb k (fun hn p e kk => hb (by rw [← kk]; exact hq hn p e)), fun m hm => (h.nt m hm).gb k hb⟩
theorem gb_set (g i : Nat) (w : World) (u : Value) : GB g w (w.setCell ⟨g, i, none⟩ u) := (GB.refl g w).setNew _ _ (Or.inr rfl)
theorem Frs.gb {b : Nat} {w w' : World} (h : Frs Z w) (k : GB b w w') : Frs Z w' := fun i hi => h i (Nat.le_trans k.size hi)
/- what a link has: items and a window -/
structure RwC (Z : Nat → Prop) (w : World) (it : List (Ox.It Nx)) (wn : Wd) (a : Option Addr) (c : Nat) (E : List Mi) (a2 : Option Addr) (c2 : Nat) : Prop where
  row : ItsAt Z w a E
  e : its E = it
  ec : E.length ≤ c
  en : E.length ≤ 9223372036854775807
  wd : WdAt w a2 c2 wn
  na : E ≠ [] → ∀ p, a = some p → Z p.block
  nb : wn.seen ≠ [] → ∀ p, a2 = some p → Z p.block
theorem RwC.gr {w w' : World} {it : List (Ox.It Nx)} {wn : Wd} {a : Option Addr} {c : Nat} {E : List Mi} {a2 : Option Addr} {c2 : Nat} (h : RwC Z w it wn a c E a2 c2) (k : Gr w w') : RwC Z w' it wn a c E a2 c2 :=
  ⟨h.row.gr k, h.e, h.ec, h.en, h.wd.gr k, h.na, h.nb⟩
theorem RwC.gb {b : Nat} {w w' : World} {it : List (Ox.It Nx)} {wn : Wd} {a : Option Addr} {c : Nat} {E : List Mi} {a2 : Option Addr} {c2 : Nat} (h : RwC Z w it wn a c E a2 c2) (k : GB b w w') (hb : ¬ Z b) : RwC Z w' it wn a c E a2 c2 :=
  ⟨⟨h.row.row.gb k (fun hn p e kk => hb (by rw [← kk]; exact h.na hn p e)), fun x hx => (h.row.nt x hx).gb k hb⟩, h.e, h.ec, h.en,
   ⟨h.wd.row.gb k (fun hn p e kk => hb (by rw [← kk]; exact h.nb hn p e)), h.wd.fits, h.wd.len, h.wd.non, h.wd.lo0, h.wd.lo1⟩, h.na, h.nb⟩
/- a row that is new -/
structure BxN (Z : Nat → Prop) (w : World) (b : Option Addr) (d : Nat) (F : List Mi) : Prop where
  row : ItsAt Z w b F
  ec : F.length ≤ d
  en : F.length ≤ 9223372036854775807
  na : F ≠ [] → ∀ p, b = some p → Z p.block
theorem Bxs.pts {w : World} {base : Nat} {a : Option Addr} {c : Nat} {E : List Mi} (h : Bxs Z w base (.slice a E.length c) E) (hF : ∀ b, base ≤ b → Z b) : BxN Z w a c E := by
  obtain ⟨_, _, e, h1, h2, hit, h3⟩ := h.at
  cases e
  exact ⟨hit, h1, by omega, fun _ p e => hF _ (h3 p e)⟩
theorem BxN.gr {w w' : World} {b : Option Addr} {d : Nat} {F : List Mi} (h : BxN Z w b d F) (k : Gr w w') : BxN Z w' b d F := ⟨h.row.gr k, h.ec, h.en, h.na⟩
theorem BxN.gb {b : Nat} {w w' : World} {a : Option Addr} {d : Nat} {F : List Mi} (h : BxN Z w a d F) (k : GB b w w') (hb : ¬ Z b) : BxN Z w' a d F :=
  ⟨⟨h.row.row.gb k (fun hn p e kk => hb (by rw [← kk]; exact h.na hn p e)), fun x hx => (h.row.nt x hx).gb k hb⟩, h.ec, h.en, h.na⟩
theorem RwC.items {w : World} {it : List (Ox.It Nx)} {wn : Wd} {a : Option Addr} {c : Nat} {E : List Mi} {a2 : Option Addr} {c2 : Nat} (h : RwC Z w it wn a c E a2 c2) {b : Option Addr} {d : Nat} {F : List Mi} (hF : BxN Z w b d F) : RwC Z w (its F) wn b d F a2 c2 :=
  ⟨hF.row, rfl, hF.ec, hF.en, h.wd, hF.na, h.nb⟩
theorem wd_none (w : World) : WdAt w none 0 ⟨0, []⟩ := ⟨IntsAt.nil, by simp, by simp, fun _ => rfl, by simp, by simp⟩
theorem RwC.window {w : World} {it : List (Ox.It Nx)} {wn : Wd} {a : Option Addr} {c : Nat} {E : List Mi} {a2 : Option Addr} {c2 : Nat} (h : RwC Z w it wn a c E a2 c2) {b : Option Addr} {d : Nat} {W : Wd} (hW : WdAt w b d W) (hn : W.seen ≠ [] → ∀ p, b = some p → Z p.block) : RwC Z w it W a c E b d :=
  ⟨h.row, h.e, h.ec, h.en, hW, h.na, hn⟩

theorem MnAt.turn {Y : Nat → Prop} {w : World} {m : Mn} (h : MnAt Z w m) (hy : ∀ b, b < w.heap.size → Z b → Y b) : MnAt Y w m := ⟨h.hp, h.hl, h.hc, h.hd, fun hn a e => hy _ (hops_lt h.hp hn e) (h.hz hn a e)⟩
theorem RwC.turn {Y : Nat → Prop} {w : World} {it : List (Ox.It Nx)} {wn : Wd} {a : Option Addr} {c : Nat} {E : List Mi} {a2 : Option Addr} {c2 : Nat} (h : RwC Z w it wn a c E a2 c2) (hy : ∀ b, b < w.heap.size → Z b → Y b) : RwC Y w it wn a c E a2 c2 :=
  ⟨⟨h.row.row, fun x hx => (h.row.nt x hx).turn hy⟩, h.e, h.ec, h.en, h.wd,
   (fun hn p e => hy _ (by
      cases E with
      | nil => exact absurd rfl hn
      | cons x t =>
        obtain ⟨b, off, e', hb, _⟩ := ItsRow.at h.row.row 0 (by simp)
        rw [e] at e'; cases e'; exact hb) (h.na hn p e)),
   (fun hn p e => hy _ (by
      have hl : 0 < wn.seen.length := List.length_pos_iff.2 hn
      obtain ⟨b, off, e', hb, _⟩ := h.wd.row 0 hl
      rw [e] at e'; cases e'; exact hb) (h.nb hn p e))⟩
/- a note's cells are written into a block -/
theorem gb_set6 (b : Nat) (w : World) (v0 v1 v2 v3 v4 v5 : Value) : GB b w ((((((w.setCell ⟨b, 0, none⟩ v0).setCell ⟨b, 1, none⟩ v1).setCell ⟨b, 2, none⟩ v2).setCell ⟨b, 3, none⟩ v3).setCell ⟨b, 4, none⟩ v4).setCell ⟨b, 5, none⟩ v5) :=
  (((((gb_set b 0 w v0).trans (gb_set b 1 _ v1)).trans (gb_set b 2 _ v2)).trans (gb_set b 3 _ v3)).trans (gb_set b 4 _ v4)).trans (gb_set b 5 _ v5)
theorem GB.set6 {a w : World} {g : Nat} (h : GB g a w) (b : Nat) (hb : a.heap.size ≤ b) (v0 v1 v2 v3 v4 v5 : Value) : GB g a ((((((w.setCell ⟨b, 0, none⟩ v0).setCell ⟨b, 1, none⟩ v1).setCell ⟨b, 2, none⟩ v2).setCell ⟨b, 3, none⟩ v3).setCell ⟨b, 4, none⟩ v4).setCell ⟨b, 5, none⟩ v5) :=
  (((((h.setNew ⟨b, 0, none⟩ v0 (Or.inl hb)).setNew ⟨b, 1, none⟩ v1 (Or.inl hb)).setNew ⟨b, 2, none⟩ v2 (Or.inl hb)).setNew ⟨b, 3, none⟩ v3 (Or.inl hb)).setNew ⟨b, 4, none⟩ v4 (Or.inl hb)).setNew ⟨b, 5, none⟩ v5 (Or.inl hb)
/- any block of these but one -/
def Bt (Z : Nat → Prop) (n : Nat) : Nat → Prop := fun b => Z b ∧ b ≠ n
theorem Bt.no {n : Nat} : ¬ Bt Z n n := fun h => h.2 rfl
theorem Bt.frs {w w2 : World} {n : Nat} (h : Frs Z w) (h1 : w.heap.size ≤ w2.heap.size) (hn : n < w2.heap.size) : Frs (Bt Z n) w2 := fun b hb => ⟨h b (by omega), by omega⟩

/- frames in memory -/
structure Mf where
  f : Int
  t : Int
  e : Int
  s : Int
  a : Int
  c : Int
  m : Mn
def fC (x : Mf) : List Value := [.int .i64 x.f, .int .i64 x.t, .int .i64 x.e, .int .i64 x.s, .int .i64 x.a, .int .i64 x.c, .int .i64 x.m.x.k, .int .i64 x.m.x.r, .int .i64 x.m.x.n, .slice x.m.ad x.m.x.L.length x.m.cap, .string x.m.x.d, .int .i64 x.m.x.y]
theorem fC_len (x : Mf) : (fC x).length = 12 := rfl
abbrev Mf.v (x : Mf) : Value := .agg #[.int .i64 x.f, .int .i64 x.t, .int .i64 x.e, .int .i64 x.s, .int .i64 x.a, .int .i64 x.c, .int .i64 x.m.x.k, .int .i64 x.m.x.r, .int .i64 x.m.x.n, .slice x.m.ad x.m.x.L.length x.m.cap, .string x.m.x.d, .int .i64 x.m.x.y]
def Mf.fr (x : Mf) : Lk.Fr Nx := ⟨x.f, x.t, x.e, x.s, x.a, x.c, pk x.m.x⟩
def frs (D : List Mf) : List (Lk.Fr Nx) := D.map Mf.fr
theorem frs_len (D : List Mf) : (frs D).length = D.length := by simp [frs]
theorem frs_app (D E : List Mf) : frs (D ++ E) = frs D ++ frs E := by simp [frs]
theorem frs_get? (D : List Mf) (j : Nat) (h : j < D.length) : (frs D)[j]? = some D[j].fr := by simp [frs, h]
theorem f_one (D : List Mf) : ∀ u ∈ D.flatMap fC, u.oneCell' = true := by
  intro u hu
  rw [List.mem_flatMap] at hu
  obtain ⟨h, _, hu⟩ := hu
  simp [fC] at hu
  rcases hu with rfl | rfl | rfl | rfl | rfl | rfl | rfl | rfl | rfl | rfl | rfl | rfl <;> rfl
theorem infoFrame : (Try.prog.info? 28).map (fun i => (i.zero, i.size, i.bytes)) = some (some (.agg #[.int .i64 0, .int .i64 0, .int .i64 0, .int .i64 0, .int .i64 0, .int .i64 0, .int .i64 0, .int .i64 0, .int .i64 0, .slice none 0 0, .string ⟨#[]⟩, .int .i64 0]), 12, 120) := by kernel_rfl
theorem f_new (w : World) (x : Mf) (t : TypeId) : ∀ j u, ([x].flatMap fC)[j]? = some u → (w.alloc (.cells (fC x).toArray t)).cell? ((⟨w.heap.size, 0, none⟩ : Addr).add j) = some u := by
  intro j u h
  rw [Addr.add_lit, Nat.zero_add, cell_of_row _ w.heap.size j _ _ _ (heap_alloc_new w _)]
  simpa using h
structure FrsAt (Z : Nat → Prop) (w : World) (ad : Option Addr) (D : List Mf) : Prop where
  row : RowAt fC w ad D
  nt : ∀ x ∈ D, MnAt Z w x.m
theorem FrsAt.gr {w w' : World} {ad : Option Addr} {D : List Mf} (h : FrsAt Z w ad D) (g : Gr w w') : FrsAt Z w' ad D := ⟨h.row.gr g, fun m hm => (h.nt m hm).gr g⟩
theorem FrsAt.nil {w : World} {ad : Option Addr} : FrsAt Z w ad [] := ⟨RowAt.nil, by simp⟩
theorem FrsAt.gb {b : Nat} {w w' : World} {ad : Option Addr} {D : List Mf} (h : FrsAt Z w ad D) (k : GB b w w') (hb : ¬ Z b) (hn : D ≠ [] → ∀ p, ad = some p → Z p.block) : FrsAt Z w' ad D :=
  ⟨h.row.gb k (fun hne p e kk => hb (by rw [← kk]; exact hn hne p e)), fun m hm => (h.nt m hm).gb k hb⟩
theorem FrsRow.at {w : World} {ad : Option Addr} {D : List Mf} (h : RowAt fC w ad D) (k : Nat) (hk : k < D.length) : ∃ b off, ad = some ⟨b, off, none⟩ ∧ b < w.heap.size ∧
    w.cell? ⟨b, off + k * 12, none⟩ = some (.int .i64 D[k].f) ∧ w.cell? ⟨b, off + k * 12 + 1, none⟩ = some (.int .i64 D[k].t) ∧ w.cell? ⟨b, off + k * 12 + 2, none⟩ = some (.int .i64 D[k].e) ∧
    w.cell? ⟨b, off + k * 12 + 3, none⟩ = some (.int .i64 D[k].s) ∧ w.cell? ⟨b, off + k * 12 + 4, none⟩ = some (.int .i64 D[k].a) ∧ w.cell? ⟨b, off + k * 12 + 5, none⟩ = some (.int .i64 D[k].c) ∧
    w.cell? ⟨b, off + k * 12 + 6, none⟩ = some (.int .i64 D[k].m.x.k) ∧ w.cell? ⟨b, off + k * 12 + 7, none⟩ = some (.int .i64 D[k].m.x.r) ∧ w.cell? ⟨b, off + k * 12 + 8, none⟩ = some (.int .i64 D[k].m.x.n) ∧
    w.cell? ⟨b, off + k * 12 + 9, none⟩ = some (.slice D[k].m.ad D[k].m.x.L.length D[k].m.cap) ∧ w.cell? ⟨b, off + k * 12 + 10, none⟩ = some (.string D[k].m.x.d) ∧ w.cell? ⟨b, off + k * 12 + 11, none⟩ = some (.int .i64 D[k].m.x.y) := by
  have g := fun i hi => flat_get fC_len D k hk i hi
  obtain ⟨b, off, rfl, hb, c0⟩ := h _ _ (g 0 (by omega))
  obtain ⟨_, _, e, _, c1⟩ := h _ _ (g 1 (by omega)); cases e
  obtain ⟨_, _, e, _, c2⟩ := h _ _ (g 2 (by omega)); cases e
  obtain ⟨_, _, e, _, c3⟩ := h _ _ (g 3 (by omega)); cases e
  obtain ⟨_, _, e, _, c4⟩ := h _ _ (g 4 (by omega)); cases e
  obtain ⟨_, _, e, _, c5⟩ := h _ _ (g 5 (by omega)); cases e
  obtain ⟨_, _, e, _, c6⟩ := h _ _ (g 6 (by omega)); cases e
  obtain ⟨_, _, e, _, c7⟩ := h _ _ (g 7 (by omega)); cases e
  obtain ⟨_, _, e, _, c8⟩ := h _ _ (g 8 (by omega)); cases e
  obtain ⟨_, _, e, _, c9⟩ := h _ _ (g 9 (by omega)); cases e
  obtain ⟨_, _, e, _, c10⟩ := h _ _ (g 10 (by omega)); cases e
  obtain ⟨_, _, e, _, c11⟩ := h _ _ (g 11 (by omega)); cases e
  rw [← Nat.add_assoc] at c1 c2 c3 c4 c5 c6 c7 c8 c9 c10 c11
  exact ⟨b, off, rfl, hb, c0, c1, c2, c3, c4, c5, c6, c7, c8, c9, c10, c11⟩
/- a row of frames that the call owns -/
structure Fxs (Z : Nat → Prop) (w : World) (base : Nat) (v : Value) (D : List Mf) : Prop where
  own : w.ownsRow base 28 12 v D.length (D.flatMap fC)
  nt : ∀ x ∈ D, MnAt Z w x.m
  ap : ∀ x ∈ D, x.m.x.L ≠ [] → ∀ a, x.m.ad = some a → v.ownBlock ≠ some a.block
theorem Fxs.nil (w : World) (base : Nat) : Fxs Z w base (.slice none 0 0) [] := ⟨World.ownsRow_nil _ _ _ _, by simp, by simp⟩
theorem Fxs.gr {w w' : World} {base : Nat} {v : Value} {D : List Mf} (h : Fxs Z w base v D) (g : Gr w w') : Fxs Z w' base v D := ⟨own_gr3 h.own g, fun x hx => (h.nt x hx).gr g, h.ap⟩
theorem Fxs.low {w : World} {base base' : Nat} {v : Value} {D : List Mf} (h : Fxs Z w base v D) (hb : base' ≤ base) : Fxs Z w base' v D := ⟨own_low h.own hb, h.nt, h.ap⟩
theorem Fxs.at {w : World} {base : Nat} {v : Value} {D : List Mf} (h : Fxs Z w base v D) : ∃ ad cap, v = .slice ad D.length cap ∧ D.length ≤ cap ∧ cap ≤ 9223372036854775807 ∧ FrsAt Z w ad D ∧ (∀ a, ad = some a → base ≤ a.block) := by
  obtain ⟨ad, cap, e, h1, h2, h3, h4, _⟩ := own_row h.own
  exact ⟨ad, cap, e, h1, h2, ⟨h3, h.nt⟩, h4⟩
theorem Fxs.more {w w' : World} {base : Nat} {v v' : Value} {D : List Mf} {x : Mf} (h : Fxs Z w base v D) (hx : MnAt Z w x.m) (hxa : x.m.x.L ≠ [] → ∀ a, x.m.ad = some a → v.ownBlock ≠ some a.block)
    (ho : w'.ownsRow base 28 12 v' (D.length + 1) (D.flatMap fC ++ [x].flatMap fC)) (g : w.grownBy w' v.ownBlock) (hat : v'.ownBlock = v.ownBlock ∨ v'.ownBlock = some w.heap.size) : Fxs Z w' base v' (D ++ [x]) := by
  have key : ∀ y : Mf, MnAt Z w y.m → (y.m.x.L ≠ [] → ∀ a, y.m.ad = some a → v.ownBlock ≠ some a.block) → MnAt Z w' y.m ∧ (y.m.x.L ≠ [] → ∀ a, y.m.ad = some a → v'.ownBlock ≠ some a.block) := by
    intro y hy ha
    refine ⟨⟨hops_kept hy.hp g ha, hy.hl, hy.hc, hy.hd, hy.hz⟩, fun hn a e => ?_⟩
    rcases hat with e1 | e1
    · rw [e1]; exact ha hn a e
    · rw [e1]
      have := hops_lt hy.hp hn e
      intro k; have := Option.some.inj k; omega
  refine ⟨?_, fun y hy => ?_, fun y hy => ?_⟩
  · rw [List.flatMap_append, List.length_append]; exact ho
  · rcases List.mem_append.1 hy with hy | hy
    · exact (key y (h.nt y hy) (h.ap y hy)).1
    · rw [List.mem_singleton] at hy; subst hy; exact (key y hx hxa).1
  · rcases List.mem_append.1 hy with hy | hy
    · exact (key y (h.nt y hy) (h.ap y hy)).2
    · rw [List.mem_singleton] at hy; subst hy; exact (key y hx hxa).2
theorem Fxs.grown {a w w' : World} {base : Nat} {v : Value} {D : List Mf} (h : Fxs Z w base v D) (g : Gr a w) (k : w.grownBy w' v.ownBlock) (hb : a.heap.size ≤ base) : Gr a w' :=
  g.grown k (fun b e => by have := (h.own.lt b e).1; omega)
theorem Fxs.far {w : World} {base : Nat} {v : Value} {D : List Mf} (h : Fxs Z w base v D) {b i : Nat} {u : Value} (hb : ¬ Z b) (hl : b < base) : Fxs Z (w.setCell ⟨b, i, none⟩ u) base v D :=
  ⟨own_far3 h.own _ _ (fun e => by have := (h.own.lt _ e).1; exact absurd hl (by simpa using this)), fun x hx => (h.nt x hx).gb (gb_set b i w u) hb, h.ap⟩
theorem Fxs.slice {base : Nat} {v : Value} {D : List Mf} {w : World} (h : Fxs Z w base v D) : ∃ a c, v = .slice a D.length c := by
  obtain ⟨a, c, e, _⟩ := h.at
  exact ⟨a, c, e⟩
end Go.Proofs.Ythfbpilfdfploaa
namespace Go.Proofs.Ythfbpilfdfploaa.Idn

def cmpI (a b : Int) : Int := if a < b then -1 else if b < a then 1 else 0
def orI (a b : Int) : Int := if a = 0 then b else a
def cmpP (x y : Int × Int) : Int := orI (cmpI x.1 y.1) (cmpI x.2 y.2)
def cmpH : List (Int × Int) → List (Int × Int) → Int
  | [], [] => 0
  | [], _ :: _ => -1
  | _ :: _, [] => 1
  | x :: s, y :: t => orI (cmpP x y) (cmpH s t)
def cmpE (r n : Int) (L : List (Int × Int)) (r' n' : Int) (L' : List (Int × Int)) : Int := orI (cmpI r r') (orI (cmpI n n') (cmpH L L'))

theorem cmpI_zero (a b : Int) : cmpI a b = 0 ↔ a = b := by unfold cmpI; split <;> (try split) <;> omega
theorem cmpI_rng (a b : Int) : cmpI a b = -1 ∨ cmpI a b = 0 ∨ cmpI a b = 1 := by unfold cmpI; split <;> (try split) <;> omega
theorem cmpI_neg (a b : Int) : cmpI b a = - cmpI a b := by unfold cmpI; split <;> (try split) <;> (try split) <;> omega
theorem orI_zero (a b : Int) : orI a b = 0 ↔ a = 0 ∧ b = 0 := by unfold orI; split <;> omega
theorem orI_self_zero (a : Int) : orI 0 a = a := rfl
theorem cmpP_zero (x y : Int × Int) : cmpP x y = 0 ↔ x = y := by
  unfold cmpP; rw [orI_zero, cmpI_zero, cmpI_zero, Prod.ext_iff]
theorem cmpH_zero (s : List (Int × Int)) : ∀ t, cmpH s t = 0 ↔ s = t := by
  induction s with
  | nil => intro t; cases t <;> simp [cmpH]
  | cons x s ih =>
    intro t
    cases t with
    | nil => simp [cmpH]
    | cons y t => rw [cmpH, orI_zero, cmpP_zero, ih, List.cons.injEq]
theorem cmpE_zero (r n : Int) (L : List (Int × Int)) (r' n' : Int) (L' : List (Int × Int)) : cmpE r n L r' n' L' = 0 ↔ r = r' ∧ n = n' ∧ L = L' := by
  unfold cmpE; rw [orI_zero, orI_zero, cmpI_zero, cmpI_zero, cmpH_zero]
end Go.Proofs.Ythfbpilfdfploaa.Idn
namespace Go.Proofs.Ythfbpilfdfploaa
open Go.RowKit

def pathE (r n : Int) (L : List (Int × Int)) : List Int := if Idn.mayB r n L = true then Idn.path r L else []
def orgE (r n : Int) (L : List (Int × Int)) : Int := (pathE r n L).getLastD (-1)
theorem may_len {r n : Int} {L : List (Int × Int)} (h : Idn.mayB r n L = true) : L.length ≤ 4 := by
  unfold Idn.mayB at h
  simp only [Bool.and_eq_true, decide_eq_true_eq] at h
  exact h.1.1.2

set_option maxHeartbeats 1000000 in
set_option maxRecDepth 100000 in
theorem path_any (r n : Int) (L : List (Int × Int)) (ad : Option Addr) (cap : Nat) (w : World) (hL : HopsAt w ad L) (hn : L.length ≤ 9223372036854775807) :
    Calls Try.prog 85 #[.agg #[.int .i64 r, .int .i64 n, .slice ad L.length cap]] w fun e w' =>
      ∃ ad2 cap2, e = .returned (.slice ad2 (pathE r n L).length cap2) ∧ (pathE r n L).length ≤ cap2 ∧ IntsAt w' ad2 (pathE r n L) ∧ Gr w w' := by
  have HC : Hid (∀ w', Gr w w' → Calls Try.prog 83 #[.agg #[.int .i64 r, .int .i64 n, .slice ad L.length cap]] w' fun e w2 => e = .returned (.int .i64 (errB (Idn.mayB r n L))) ∧ Gr w' w2) := fun w' g => check_any r n L ad cap w' (hL.gr g) hn
  by_cases hm : Idn.mayB r n L = true
  · have h4 := may_len hm
    have HO : Hid (∀ w', Gr w w' → Calls Try.prog 94 #[.agg #[.int .i64 r, .int .i64 n, .slice ad L.length cap]] w' fun e w2 => ∃ ad2 cap2, e = .returned (.slice ad2 (L.length + 1) cap2) ∧ L.length + 1 ≤ cap2 ∧ IntsAt w2 ad2 (Idn.path r L) ∧ Gr w' w2) := fun w' g => pathOf_any r n L ad cap w' (hL.gr g) (by omega)
    have HE : Hid (pathE r n L = Idn.path r L) := by show _ = _; unfold pathE; rw [if_pos hm]
    rw [hm, show errB true = 0 from rfl] at HC
    clear hL hm
    go_enter Try.func85, Try.ntmps85
    go_wp2_with fail
    refine (HC.out _ (by repeat(first|exact Gr.r _|refine Gr.a ?_|refine Gr.d ?_|refine Gr.t ?_ (by assumption)))).mono ?_
    rintro e1 w1 ⟨rfl, hg1⟩
    obtain ⟨hc1, hf1⟩ := hg1.cells
    go_wp2_with fail
    refine (HO.out _ (by repeat(first|exact Gr.r _|refine Gr.a ?_|refine Gr.d ?_|refine Gr.t ?_ (by assumption)))).mono ?_
    rintro e2 w2 ⟨ad2, cap2, rfl, hcp, hia, hg2⟩
    have HI : Hid (IntsAt w2 ad2 (Idn.path r L)) := hia
    clear hia
    go_wp2
    go_ret
    rw [HE.out, path_len]
    exact ⟨ad2, cap2, rfl, hcp, HI.out, (by repeat(first|exact Gr.r _|refine Gr.a ?_|refine Gr.d ?_|refine Gr.t ?_ (by assumption)))⟩
  · have hm' : Idn.mayB r n L = false := by simpa using hm
    have HE : Hid (pathE r n L = []) := by show _ = _; unfold pathE; rw [if_neg hm]
    rw [hm', show errB false = 30 from rfl] at HC
    clear hL hm hm'
    go_enter Try.func85, Try.ntmps85
    go_wp2_with fail
    refine (HC.out _ (by repeat(first|exact Gr.r _|refine Gr.a ?_|refine Gr.d ?_|refine Gr.t ?_ (by assumption)))).mono ?_
    rintro e1 w1 ⟨rfl, hg1⟩
    go_wp2
    go_ret
    rw [HE.out]
    exact ⟨none, 0, rfl, by simp, fun j h => absurd h (by simp), (by repeat(first|exact Gr.r _|refine Gr.a ?_|refine Gr.d ?_|refine Gr.t ?_ (by assumption)))⟩

set_option maxHeartbeats 1000000 in
set_option maxRecDepth 100000 in
theorem org_any (r n : Int) (L : List (Int × Int)) (ad : Option Addr) (cap : Nat) (w : World) (hL : HopsAt w ad L) (hn : L.length ≤ 9223372036854775807) :
    Calls Try.prog 60 #[.agg #[.int .i64 r, .int .i64 n, .slice ad L.length cap]] w fun e w' => e = .returned (.int .i64 (orgE r n L)) ∧ Gr w w' := by
  have HC : Hid (∀ w', Gr w w' → Calls Try.prog 85 #[.agg #[.int .i64 r, .int .i64 n, .slice ad L.length cap]] w' fun e w2 => ∃ ad2 cap2, e = .returned (.slice ad2 (pathE r n L).length cap2) ∧ (pathE r n L).length ≤ cap2 ∧ IntsAt w2 ad2 (pathE r n L) ∧ Gr w' w2) := fun w' g => path_any r n L ad cap w' (hL.gr g) hn
  have hl5 : (pathE r n L).length ≤ 5 := by
    unfold pathE
    split
    · next h => rw [path_len]; have := may_len h; omega
    · simp
  have HE : Hid (orgE r n L = (pathE r n L).getLastD (-1)) := rfl
  generalize pathE r n L = l at *
  clear hL
  by_cases h0 : l = []
  · subst h0
    go_enter Try.func60, Try.ntmps60
    go_wp2_with fail
    refine (HC.out _ (by repeat(first|exact Gr.r _|refine Gr.a ?_|refine Gr.d ?_|refine Gr.t ?_ (by assumption)))).mono ?_
    rintro e1 w1 ⟨ad2, cap2, rfl, hcp, hia, hg1⟩
    go_wp2
    go_ret
    exact ⟨by rw [HE.out]; rfl, (by repeat(first|exact Gr.r _|refine Gr.a ?_|refine Gr.d ?_|refine Gr.t ?_ (by assumption)))⟩
  · have hp : 0 < l.length := List.length_pos_iff.2 h0
    have hne : ((l.length : Int) == 0) = false := by rw [beq_eq_false_iff_ne]; omega
    have HL : Hid (orgE r n L = l[l.length - 1]'(by omega)) := by
      show _ = _
      rw [HE.out, List.getLastD_eq_getLast?, List.getLast?_eq_getElem?, List.getElem?_eq_getElem (by omega)]; rfl
    have hsub : (l.length : Int) - 1 = ((l.length - 1 : Nat) : Int) := by omega
    have hlt1 : l.length - 1 < l.length := by omega
    go_enter Try.func60, Try.ntmps60
    go_wp2_with fail
    refine (HC.out _ (by repeat(first|exact Gr.r _|refine Gr.a ?_|refine Gr.d ?_|refine Gr.t ?_ (by assumption)))).mono ?_
    rintro e1 w1 ⟨ad2, cap2, rfl, hcp, hia, hg1⟩
    obtain ⟨b, off, rfl, hbl, hc⟩ := hia (l.length - 1) (by omega)
    clear hia
    generalize l[l.length - 1]'hlt1 = o at *
    go_wp2
    go_ret
    exact ⟨by rw [HL.out]; rfl, (by repeat(first|exact Gr.r _|refine Gr.a ?_|refine Gr.d ?_|refine Gr.t ?_ (by assumption)))⟩
end Go.Proofs.Ythfbpilfdfploaa
namespace Go.Proofs.Ythfbpilfdfploaa
variable {P : Program} {md : Region.Mode} {ops : Array Oper} {Q : Exit → Act → World → Prop} {S : World → Prop}

theorem take_yes (i d : Nat) {oi : Oper} {v : Value} {fuel : Nat} {listed : Array Bool} {a : Act} {w : World} (hi : ops[i]? = some oi) (hd : oi.dst = some d)
    (hs : Region.noSelect ops = true) (hf : Region.free md ops listed i = true) (hr : (Region.ready md ops listed).contains i = true)
    (hQ : ∀ c a w, Q (.panic c) (a.put (some d) v) w → Q (.panic c) a w) (hw : Region.wanted oi (yielded ops a.tmps) = true) (hy : ∀ w, S w → (execOp a.eval oi).run P w = .ok (.value v) w) (hS : S w)
    (h : wpAnyH P md ops Q S fuel (listed.setIfInBounds i true) (a.put (some d) v) w) : wpAnyH P md ops Q S (fuel + 1) listed a w := by
  rw [← hd] at hQ h
  exact wpAnyH_take hi hs hf hr hQ (Or.inl ⟨hw, hy⟩) hS h
theorem take_not (i d : Nat) {oi : Oper} {fuel : Nat} {listed : Array Bool} {a : Act} {w : World} (hi : ops[i]? = some oi) (hd : oi.dst = some d)
    (hs : Region.noSelect ops = true) (hf : Region.free md ops listed i = true) (hr : (Region.ready md ops listed).contains i = true)
    (hQ : ∀ c a w, Q (.panic c) (a.put (some d) undef) w → Q (.panic c) a w) (hw : Region.wanted oi (yielded ops a.tmps) = false) (hS : S w)
    (h : wpAnyH P md ops Q S fuel (listed.setIfInBounds i true) (a.put (some d) undef) w) : wpAnyH P md ops Q S (fuel + 1) listed a w := by
  rw [← hd] at hQ h
  exact wpAnyH_take hi hs hf hr hQ (Or.inr ⟨hw, rfl⟩) hS h
/- the same in few words -/
theorem ty (i d : Nat) {oi : Oper} {v : Value} {fuel : Nat} {listed : Array Bool} {a a' : Act} {w : World} (hS : S w) (h : wpAnyH P md ops Q S fuel (listed.setIfInBounds i true) a' w)
    (hi : ops[i]? = some oi := by rfl) (hd : oi.dst = some d := by rfl) (hs : Region.noSelect ops = true := by kernel_rfl) (hf : Region.free md ops listed i = true := by kernel_rfl) (hr : (Region.ready md ops listed).contains i = true := by kernel_rfl)
    (hQ : ∀ c a w, Q (.panic c) (a.put (some d) v) w → Q (.panic c) a w := by exact fun _ _ _ h => h) (hw : Region.wanted oi (yielded ops a.tmps) = true := by rfl)
    (hy : ∀ w, S w → (execOp a.eval oi).run P w = .ok (.value v) w := by (intro w hSw; (try dsimp only at hSw); go_simp; try with_reducible rfl))
    (ha : a.put (some d) v = a' := by (simp only [Act.put, List.setIfInBounds_toArray, List.set_cons_zero, List.set_cons_succ]; rfl)) : wpAnyH P md ops Q S (fuel + 1) listed a w := by
  subst ha
  exact take_yes i d hi hd hs hf hr hQ hw hy hS h
theorem tn (i d : Nat) {oi : Oper} {fuel : Nat} {listed : Array Bool} {a a' : Act} {w : World} (hS : S w) (h : wpAnyH P md ops Q S fuel (listed.setIfInBounds i true) a' w)
    (hi : ops[i]? = some oi := by rfl) (hd : oi.dst = some d := by rfl) (hs : Region.noSelect ops = true := by kernel_rfl) (hf : Region.free md ops listed i = true := by kernel_rfl) (hr : (Region.ready md ops listed).contains i = true := by kernel_rfl)
    (hQ : ∀ c a w, Q (.panic c) (a.put (some d) undef) w → Q (.panic c) a w := by exact fun _ _ _ h => h) (hw : Region.wanted oi (yielded ops a.tmps) = false := by rfl)
    (ha : a.put (some d) undef = a' := by (simp only [Act.put, List.setIfInBounds_toArray, List.set_cons_zero, List.set_cons_succ]; rfl)) : wpAnyH P md ops Q S (fuel + 1) listed a w := by
  subst ha
  exact take_not i d hi hd hs hf hr hQ hw hS h
end Go.Proofs.Ythfbpilfdfploaa
namespace Go.Proofs.Ythfbpilfdfploaa
open Go.RowKit

set_option maxHeartbeats 400000 in
theorem sclone_any (s : ByteArray) (w : World) (hs : s.size ≤ 140737488355328) : Calls Try.prog 57 #[.string s] w fun e w' => e = .returned (.string s) ∧ Gr w w' := by
  have HC : Hid (∀ w : World, Calls Try.prog 79 #[.string s] w fun e w' => e = .returned (.string s) ∧ Below w.heap.size w w') := fun w => Try.stringslite_Clone s w (by omega)
  go_enter Try.func57, Try.ntmps57
  go_wp2_with fail
  refine (HC.out _).mono ?_
  rintro e w1 ⟨rfl, hb⟩
  go_wp2
  go_ret
  exact ⟨rfl, ⟨hb⟩⟩

end Go.Proofs.Ythfbpilfdfploaa
