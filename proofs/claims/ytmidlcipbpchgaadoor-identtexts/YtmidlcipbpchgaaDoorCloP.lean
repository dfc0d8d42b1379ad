/- slices.Clone and slices.Grow, slices.Concat of hops. -/
import Derived.Test.YtmidlcipbpchgaaDoorIdA
import Derived.Deep.RegionHeld3
import Derived.Lib.AppendZeros
import Derived.Laws.AppendOwnNone
namespace Go.Proofs.YtmidlcipbpchgaaDoor
open Go.RowKit

def hopV (L : List (Int × Int)) : List Value := L.flatMap fun h => [.int .i64 h.1, .int .i64 h.2]
theorem hopV_len (L : List (Int × Int)) : (hopV L).length = L.length * 2 := by
  induction L with
  | nil => rfl
  | cons h t ih => simp [hopV] at ih ⊢; omega
theorem hopV_app (L M : List (Int × Int)) : hopV (L ++ M) = hopV L ++ hopV M := by simp [hopV]
theorem hopV_get (L : List (Int × Int)) : ∀ j (h : j < L.length), (hopV L)[j * 2]? = some (.int .i64 L[j].1) ∧ (hopV L)[j * 2 + 1]? = some (.int .i64 L[j].2) := by
  induction L with
  | nil => intro j h; simp at h
  | cons x t ih =>
    intro j h
    have e : hopV (x :: t) = .int .i64 x.1 :: .int .i64 x.2 :: hopV t := rfl
    rw [e]
    cases j with
    | zero => exact ⟨rfl, rfl⟩
    | succ j =>
      obtain ⟨h1, h2⟩ := ih j (by simpa using h)
      refine ⟨?_, ?_⟩
      · have : (j + 1) * 2 = j * 2 + 1 + 1 := by omega
        rw [this]; simpa using h1
      · have : (j + 1) * 2 + 1 = j * 2 + 1 + 1 + 1 := by omega
        rw [this]; simpa using h2
theorem hopV_one (L : List (Int × Int)) : ∀ u ∈ hopV L, u.oneCell' = true := by
  intro u hu
  simp only [hopV, List.mem_flatMap] at hu
  obtain ⟨h, _, hu⟩ := hu
  simp at hu
  rcases hu with rfl | rfl <;> rfl
/- what hops in memory are, cell by cell -/
theorem HopsAt.news {w : World} {b off : Nat} {L : List (Int × Int)} (h : HopsAt w (some ⟨b, off, none⟩) L) : ∀ j u, (hopV L)[j]? = some u → w.cell? ((⟨b, off, none⟩ : Addr).add j) = some u := by
  intro j u hu
  have hj : j < L.length * 2 := by
    rw [← hopV_len]
    exact (List.getElem?_eq_some_iff.1 hu).1
  have hj2 : j / 2 < L.length := by omega
  obtain ⟨b', off', e, _, h1, h2⟩ := h (j / 2) hj2
  simp at e
  obtain ⟨rfl, rfl⟩ := e
  obtain ⟨g1, g2⟩ := hopV_get L (j / 2) hj2
  rw [Addr.add_lit]
  rcases Nat.mod_two_eq_zero_or_one j with hm | hm
  · have e : j = j / 2 * 2 := by omega
    rw [e] at hu ⊢
    rw [g1] at hu
    rw [← hu]; exact h1
  · have e : j = j / 2 * 2 + 1 := by omega
    rw [e] at hu ⊢
    rw [g2] at hu
    rw [← hu, ← Nat.add_assoc]; exact h2
/- a row of hops that the call owns -/
theorem own_hops {base : Nat} {v : Value} {L : List (Int × Int)} {w : World} (h : w.ownsRow base 55 2 v L.length (hopV L)) : ∃ ad cap, v = .slice ad L.length cap ∧ L.length ≤ cap ∧ HopsAt w ad L ∧ ∀ a, ad = some a → base ≤ a.block := by
  have hcell := fun g (hg : v.ownBlock = some g) => h.cells hg
  have hlt := h.lt
  obtain ⟨_, ⟨rfl, h0⟩ | ⟨g, cap, cur, rfl, hx⟩⟩ := h
  · have : L = [] := List.length_eq_zero_iff.1 h0
    subst this
    exact ⟨none, 0, rfl, by simp, HopsAt.nil, fun a e => by cases e⟩
  · refine ⟨some ⟨g, 0, none⟩, cap, rfl, hx.2.2.1, ?_, fun a e => by cases e; exact (hlt g rfl).1⟩
    intro j hj
    obtain ⟨g1, g2⟩ := hopV_get L j hj
    have c1 := hcell g rfl _ _ g1
    have c2 := hcell g rfl _ _ g2
    rw [Addr.add_lit] at c1 c2
    exact ⟨g, 0, rfl, (hlt g rfl).2, c1, by rw [← Nat.add_assoc] at c2; exact c2⟩
theorem HopsAt.alloc {w : World} {ad : Option Addr} {L : List (Int × Int)} {ob : Obj} (h : HopsAt w ad L) : HopsAt (w.alloc ob) ad L := h.gr (Gr.refl _).alloc
theorem HopsAt.drew {w : World} {ad : Option Addr} {L : List (Int × Int)} (h : HopsAt w ad L) : HopsAt w.drew ad L := h.gr (Gr.refl _).drew
theorem HopsAt.set {w : World} {ad : Option Addr} {L : List (Int × Int)} (h : HopsAt w ad L) (p : Addr) (v : Value) (hp : ∀ a, ad = some a → p.block ≠ a.block) : HopsAt (w.setCell p v) ad L := by
  intro j hj
  obtain ⟨b, off, e, hb, h1, h2⟩ := h j hj
  have hne : p.block ≠ b := hp _ e
  refine ⟨b, off, e, by simpa using hb, ?_, ?_⟩
  · rw [World.cell?_setCell_far _ _ _ _ (by simpa using hne)]; exact h1
  · rw [World.cell?_setCell_far _ _ _ _ (by simpa using hne)]; exact h2
theorem own_lit0 (w : World) (base : Nat) (t : TypeId) (g : Nat) (hg : g = w.heap.size) (hb : base ≤ w.heap.size) : (w.alloc (.cells #[] t)).ownsRow base t 2 (.slice (some ⟨g, 0, none⟩) 0 0) 0 [] := by
  subst hg; exact World.ownsRow_lit w #[] 0 hb (by unfold maxLen; omega) rfl

set_option maxHeartbeats 1000000 in
set_option maxRecDepth 100000 in
theorem clone_any (L : List (Int × Int)) (b off cap : Nat) (w : World) (hL : HopsAt w (some ⟨b, off, none⟩) L) (hn : L.length ≤ 1000) :
    Calls Tryd.prog 33 #[.slice (some ⟨b, off, none⟩) L.length cap] w fun e w' => ∃ ad2 cap2, e = .returned (.slice ad2 L.length cap2) ∧ L.length ≤ cap2 ∧ HopsAt w' ad2 L ∧ (∀ a, ad2 = some a → w.heap.size ≤ a.block) ∧ Gr w w' := by
  obtain ⟨i0, hi, hz0, hz1, hz2⟩ := info_parts infoHop
  have hnews := (hL.gr ((Gr.refl w).alloc (o := .cells #[] 55))).news
  have HN : Hid (∀ j u, (hopV L)[j]? = some u → (w.alloc (.cells #[] 55)).cell? ((⟨b, off, none⟩ : Addr).add j) = some u) := hnews
  have hln := hopV_len L
  have hm1 : 0 + L.length ≤ maxLen := by unfold maxLen; omega
  clear hL hnews
  have he : ∀ w : World, (binOp .eql 22 (.slice (some ⟨b, off, none⟩) L.length cap) (.slice none 0 0)).run Tryd.prog w = .ok (.bool false) w := fun _ => rfl
  go_enter Tryd.func33, Tryd.ntmps33
  go_wp2_with (first
    | (at_builtin; refine wpList_append_own _ rfl _ _ 22 rfl w.heap.size 55 i0 (.agg #[.int .i64 0, .int .i64 0]) 2 16 Tryd.underlying22 hi hz0 hz1 hz2 rfl (by decide) _ _ _ rfl (own_lit0 _ _ _ _ (by simp) (by simp)) ⟨b, off, none⟩ L.length cap (hopV L) rfl hln HN.out (hopV_one L) hm1 (by omega) (by simp) ?_)
    | fail)
  intro v' w1 hown' hgrow _
  obtain ⟨ad2, cap2, rfl, hcp, hia, hfr⟩ := own_hops hown'
  have HI : Hid (HopsAt w1 ad2 L) := hia
  have HFR : Hid (∀ a, ad2 = some a → w.heap.size ≤ a.block) := hfr
  have hb1 : Below w.heap.size w (w.alloc (.cells #[] 55)) := (Below.refl w.heap.size w).alloc (Nat.le_refl _) _
  have HG : Hid (Gr w w1) := ⟨hb1.grown hgrow (by simp) (fun k hk => by simp [Value.ownBlock] at hk; omega)⟩
  clear hown' hia hfr
  go_wp2
  go_ret
  exact ⟨ad2, cap2, rfl, hcp, HI.out, HFR.out, HG.out⟩

theorem zeroCells_len (z : Array Value) (n : Nat) : (Builtin.zeroCells z n).size = n * z.size := by
  simp [Builtin.zeroCells]

set_option maxHeartbeats 1000000 in
set_option maxRecDepth 100000 in
theorem grow_any (n : Nat) (w : World) (h0 : 0 < n) (hn : n ≤ 1000) :
    Calls Tryd.prog 46 #[.slice none 0 0, .int .i64 n] w fun e w' => ∃ v, e = .returned v ∧ w'.ownsRow w.heap.size 55 2 v 0 [] ∧ Gr w w' := by
  obtain ⟨i0, hi, hz0, hz1, hz2⟩ := info_parts infoHop
  have happ := Lib.run_append_nil_zeros (P := Tryd.prog) w 22 3 22 55 i0 (.agg #[.int .i64 0, .int .i64 0]) .i64 .i64 Tryd.underlying22 Tryd.underlying3 hi hz0 n h0 (by omega) (by omega) (by rw [hz2]; omega)
  have hge := grownCap_ge w n 0 55
  have hle := grownCap_le_maxLen w n 0 55 (by unfold maxLen; omega)
  generalize grownCap w n 0 55 = c at *
  have hsz : (Builtin.zeroCells #[Value.int .i64 0, Value.int .i64 0] n ++ Builtin.zeroCells #[Value.int .i64 0, Value.int .i64 0] (c - n)).size = c * 2 := by
    rw [Array.size_append, zeroCells_len, zeroCells_len]; simp; omega
  have hz : (Value.agg #[.int .i64 0, .int .i64 0]).cells = #[Value.int .i64 0, Value.int .i64 0] := rfl
  rw [hz] at happ
  generalize (Builtin.zeroCells #[Value.int .i64 0, Value.int .i64 0] n ++ Builtin.zeroCells #[Value.int .i64 0, Value.int .i64 0] (c - n)) = cs at *
  clear hz0 hz1 hz2 hi hz
  go_enter Tryd.func46, Tryd.ntmps46
  go_wp2_with (first
    | (at_builtin; refine Lib.wpList_append_run _ rfl _ _ 22 3 rfl _ _ rfl rfl _ _ happ ?_)
    | fail)
  go_ret
  exact ⟨_, rfl, ⟨by simp, .inr ⟨w.heap.size, c, cs, rfl, Nat.le_refl _, heap_alloc_new w.drew _, Nat.zero_le _, hle, hsz, by simp⟩⟩, (by repeat (first | exact Gr.refl _ | refine Gr.alloc ?_ | refine Gr.drew ?_ | refine Gr.trans ?_ (by assumption)))⟩

theorem own_grow {base : Nat} {w w' : World} (h : Below base w w') (hb : base ≤ w.heap.size) (o : Obj) : Below base w (w'.alloc o) := h.alloc (Nat.le_trans hb h.size) o

set_option maxHeartbeats 2000000 in
set_option maxRecDepth 100000 in
theorem concat_any (L : List (Int × Int)) (hp : Int × Int) (ad : Option Addr) (cap g b2 off2 : Nat) (w : World) (hL : HopsAt w ad L) (hz : ad = none → cap = 0) (hM : HopsAt w (some ⟨b2, off2, none⟩) [hp]) (hn : L.length ≤ 900)
    (c0 : w.cell? ⟨g, 0, none⟩ = some (.slice ad L.length cap)) (c1 : w.cell? ⟨g, 1, none⟩ = some (.slice (some ⟨b2, off2, none⟩) 1 1)) :
    Calls Tryd.prog 34 #[.slice (some ⟨g, 0, none⟩) 2 2] w fun e w' => ∃ ad2 cap2, e = .returned (.slice ad2 (L.length + 1) cap2) ∧ L.length + 1 ≤ cap2 ∧ HopsAt w' ad2 (L ++ [hp]) ∧ (∀ a, ad2 = some a → w.heap.size ≤ a.block) ∧ Gr w w' := by
  obtain ⟨i0, hi, hz0, hz1, hz2⟩ := info_parts infoHop
  have HL : Hid (HopsAt w ad L) := hL
  have HM : Hid (HopsAt w (some ⟨b2, off2, none⟩) [hp]) := hM
  have HG : Hid (∀ w', Calls Tryd.prog 46 #[.slice none 0 0, .int .i64 ((L.length + 1 : Nat) : Int)] w' fun e w2 => ∃ v, e = .returned v ∧ w2.ownsRow w'.heap.size 55 2 v 0 [] ∧ Gr w' w2) := fun w' => grow_any (L.length + 1) w' (by omega) (by omega)
  have HZ : Hid (ad = none → cap = 0) := hz
  clear hL hM hz
  go_enter Tryd.func34, Tryd.ntmps34
  go_wp2
  go_loop [3, 11] (fun s i => (i = .int .i64 0 ∧ s = .int .i64 0) ∨ (i = .int .i64 1 ∧ s = .int .i64 L.length) ∨ (i = .int .i64 2 ∧ s = .int .i64 ((L.length + 1 : Nat) : Int))) (fun _ i => 2 - (intOf i).toNat)
  case atStart => exact Or.inl ⟨rfl, rfl⟩
  case round =>
    rcases hrel with ⟨rfl, rfl⟩ | ⟨rfl, rfl⟩ | ⟨rfl, rfl⟩
    · go_wp2
      go_round
      case rel => exact Or.inr (Or.inl ⟨rfl, by go_num⟩)
      case measure => simp [intOf]
    · go_wp2
      go_round
      case rel => exact Or.inr (Or.inr ⟨rfl, by go_num⟩)
      case measure => simp [intOf]
    · go_wp2_with fail
      refine (HG.out _).mono ?_
      rintro e1 w1 ⟨v, rfl, hown, hg1⟩
      have d0 := hg1.keep c0
      have d1 := hg1.keep c1
      have hown0 : w1.ownsRow w.heap.size 55 2 v 0 [] := hown
      go_wp2
      go_loopw [6, 27] (fun v i wr => ((i = .int .i64 0 ∧ wr.ownsRow w.heap.size 55 2 v 0 []) ∨ (i = .int .i64 1 ∧ wr.ownsRow w.heap.size 55 2 v L.length (hopV L)) ∨ (i = .int .i64 2 ∧ wr.ownsRow w.heap.size 55 2 v (L.length + 1) (hopV (L ++ [hp])))) ∧ Below w.heap.size w wr) (fun _ i _ => 2 - (intOf i).toNat)
      case atStart => exact ⟨Or.inl ⟨rfl, hown0⟩, hg1.below⟩
      case round =>
        obtain ⟨hr, hb⟩ := hrel
        have hbs := hb.size
        have hgr : Gr w wr := ⟨hb⟩
        have e0 := hgr.keep c0
        have e1 := hgr.keep c1
        clear c0 c1 d0 d1 hown hown0
        rcases hr with ⟨rfl, hown⟩ | ⟨rfl, hown⟩ | ⟨rfl, hown⟩
        · cases ad with
          | none =>
            obtain rfl : cap = 0 := HZ.out rfl
            have hLn : L = [] := by
              cases L with
              | nil => rfl
              | cons x t => obtain ⟨b, off, e, _⟩ := HL.out 0 (by simp); cases e
            have HO : Hid (wr.ownsRow w.heap.size 55 2 u6 L.length (hopV L)) := by
              show World.ownsRow _ _ _ _ _ _ _
              rw [hLn]; exact hown
            have hl0 : L.length = 0 := by rw [hLn]; rfl
            rw [hl0] at e0
            clear hLn hl0 HL HM
            go_wp2_with (first
              | (at_builtin; refine wpList_append_own_none rfl _ _ 22 rfl w.heap.size 55 i0 2 Tryd.underlying22 hi _ _ _ rfl hown rfl ?_)
              | fail)
            go_wp2
            go_roundw
            case rel => exact ⟨Or.inr (Or.inl ⟨rfl, HO.out⟩), hb⟩
            case measure => simp [intOf]
          | some a =>
            have HA : Hid (∃ b off, (some a : Option Addr) = some ⟨b, off, none⟩ ∧ HopsAt w (some ⟨b, off, none⟩) L ∨ L = []) := by
              cases L with
              | nil => exact ⟨0, 0, Or.inr rfl⟩
              | cons x t =>
                obtain ⟨b, off, e, _⟩ := HL.out 0 (by simp)
                exact ⟨b, off, Or.inl ⟨e, by have := HL.out; rw [e] at this; exact this⟩⟩
            have hnews : ∀ j u, (hopV L)[j]? = some u → wr.cell? (a.add j) = some u := by
              obtain ⟨b, off, ⟨e, hh⟩ | hnil⟩ := HA.out
              · cases e
                exact (hh.gr hgr).news
              · subst hnil
                intro j u hu
                simp [hopV] at hu
            have HN : Hid (∀ j u, (hopV L)[j]? = some u → wr.cell? (a.add j) = some u) := hnews
            have hln := hopV_len L
            have hm1 : 0 + L.length ≤ maxLen := by unfold maxLen; omega
            clear hnews HA HL HM
            go_wp2_with (first
              | (at_builtin; refine wpList_append_own _ rfl _ _ 22 rfl w.heap.size 55 i0 (.agg #[.int .i64 0, .int .i64 0]) 2 16 Tryd.underlying22 hi hz0 hz1 hz2 rfl (by decide) _ _ _ rfl hown a L.length cap (hopV L) rfl hln HN.out (hopV_one L) hm1 (by omega) (by omega) ?_)
              | fail)
            intro v' w2 hown' hgrow _
            go_wp2
            go_roundw
            case rel =>
              refine ⟨Or.inr (Or.inl ⟨rfl, ?_⟩), hb.grown hgrow hbs (fun k hk => (hown.lt k hk).1)⟩
              simpa using hown'
            case measure => simp [intOf]
        · have hnews : ∀ j u, (hopV [hp])[j]? = some u → wr.cell? ((⟨b2, off2, none⟩ : Addr).add j) = some u := (HM.out.gr hgr).news
          have HN : Hid (∀ j u, (hopV [hp])[j]? = some u → wr.cell? ((⟨b2, off2, none⟩ : Addr).add j) = some u) := hnews
          have hln : (hopV [hp]).length = 1 * 2 := hopV_len [hp]
          have hm1 : L.length + 1 ≤ maxLen := by unfold maxLen; omega
          clear hnews HL HM
          go_wp2_with (first
            | (at_builtin; refine wpList_append_own _ rfl _ _ 22 rfl w.heap.size 55 i0 (.agg #[.int .i64 0, .int .i64 0]) 2 16 Tryd.underlying22 hi hz0 hz1 hz2 rfl (by decide) _ _ _ rfl hown ⟨b2, off2, none⟩ 1 1 (hopV [hp]) rfl hln HN.out (hopV_one [hp]) hm1 (by omega) (by omega) ?_)
            | fail)
          intro v' w2 hown' hgrow _
          go_wp2
          go_roundw
          case rel =>
            refine ⟨Or.inr (Or.inr ⟨rfl, ?_⟩), hb.grown hgrow hbs (fun k hk => (hown.lt k hk).1)⟩
            rw [hopV_app]; exact hown'
          case measure => simp [intOf]
        · have key : ∀ {u : Value}, wr.ownsRow w.heap.size 55 2 u (L.length + 1) (hopV (L ++ [hp])) → ∃ ad2 cap2, u = .slice ad2 (L.length + 1) cap2 ∧ L.length + 1 ≤ cap2 ∧ HopsAt wr ad2 (L ++ [hp]) ∧ ∀ a, ad2 = some a → w.heap.size ≤ a.block := by
            intro u hu
            have := own_hops (L := L ++ [hp]) (by rw [List.length_append]; exact hu)
            rw [List.length_append] at this
            exact this
          obtain ⟨ad2, cap2, rfl, hcp, hia, hfr⟩ := key hown
          have HI : Hid (HopsAt wr ad2 (L ++ [hp])) := hia
          have HFR : Hid (∀ a, ad2 = some a → w.heap.size ≤ a.block) := hfr
          clear hown key hia hfr HL HM
          go_wp2
          go_ret
          exact ⟨ad2, cap2, rfl, hcp, HI.out, HFR.out, hgr⟩
end Go.Proofs.YtmidlcipbpchgaaDoor
