/- Parts of these proofs, laid together. -/
import Derived.Test.YthfbpilfdfploaaGreatProg
import Derived.WalkKit
import Derived.WalkSpells
import Derived.WalkLawsBesides
import Derived.Laws.IdiomStrings
import Derived.Lib.UnsafeStr
import Derived.KernelRfl
import Derived.Deep.RegionWith
import Derived.Deep.DrawnRows
import Init.Data.List
import Derived.Laws.OwnMore
import Derived.Maps.AppendAt
import Derived.Test.YthfbpilfdfploaaGreatShelf
import Derived.Deep.RegionHeld3
import Derived.Lib.AppendZeros
import Derived.Laws.AppendOwnNone
import Derived.BigRegion
import Derived.Laws.NewBlocks
import Derived.Lib.ItoaNum
namespace Pk

def numF : Nat → Nat → List UInt8
  | 0, n => [UInt8.ofNat n]
  | f + 1, n => if n < 128 then [UInt8.ofNat n] else UInt8.ofNat (n % 128 + 128) :: numF f (n / 128)
def num (n : Nat) : List UInt8 := numF 9 n

theorem numF_len (f n : Nat) : 1 ≤ (numF f n).length ∧ (numF f n).length ≤ f + 1 := by
  induction f generalizing n with
  | zero => simp [numF]
  | succ f ih =>
    by_cases h : n < 128
    · simp [numF, h]
    · have := ih (n / 128)
      simp [numF, h]; omega
theorem num_len (n : Nat) : 1 ≤ (num n).length ∧ (num n).length ≤ 10 := numF_len 9 n
/- the fuel is of no matter where it suffices -/
/- a number that may be below 0, as one that is not -/
/- taking a number: its value, how many bytes it is, the error -/
def takeF : Nat → Nat → Nat → List UInt8 → Nat × Nat × Nat
  | 0, _, _, _ => (0, 0, 11)
  | _ + 1, _, _, [] => (0, 0, 10)
  | f + 1, i, a, b :: r =>
    if 128 ≤ b.toNat then takeF f (i + 1) (a + b.toNat % 128 * 128 ^ i) r
    else if (i = 9 ∧ 1 < b.toNat) ∨ (i ≠ 0 ∧ b.toNat = 0) then (0, 0, 11)
    else (a + b.toNat * 128 ^ i, i + 1, 0)
def take (l : List UInt8) : Nat × Nat × Nat := takeF 10 0 0 l
/- texts, one behind the other, each behind its length -/
end Pk
namespace Go.Proofs.YthfbpilfdfploaaGreat
open Go.RowKit

structure Gr (w w' : World) : Prop where
  below : Below w.heap.size w w'
theorem Gr.refl (w : World) : Gr w w := ⟨Below.refl _ _⟩
theorem Gr.trans {a b c : World} (h : Gr a b) (k : Gr b c) : Gr a c := ⟨h.below.trans (k.below.mono h.below.size)⟩
theorem Gr.alloc {a b : World} (h : Gr a b) {o : Obj} : Gr a (b.alloc o) := ⟨h.below.alloc h.below.size _⟩
theorem Gr.drew {a b : World} (h : Gr a b) : Gr a b.drew := ⟨h.below.drew⟩
theorem Gr.r (w : World) : Gr w w := Gr.refl w
theorem Gr.a {a b : World} (h : Gr a b) {o : Obj} : Gr a (b.alloc o) := h.alloc
theorem Gr.d {a b : World} (h : Gr a b) : Gr a b.drew := h.drew
theorem Gr.t {a b c : World} (h : Gr a b) (k : Gr b c) : Gr a c := h.trans k
theorem Gr.size {a b : World} (h : Gr a b) : a.heap.size ≤ b.heap.size := h.below.size
theorem Gr.cells {W w1 : World} (h : Gr W w1) : (∀ b o, b < W.heap.size → w1.cell? ⟨b, o, none⟩ = W.cell? ⟨b, o, none⟩) ∧ (∀ b o, b < W.heap.size → w1.frozen? ⟨b, o, none⟩ = W.frozen? ⟨b, o, none⟩) :=
  ⟨fun b o hb => h.below.cell (p := ⟨b, o, none⟩) hb, fun b o hb => h.below.frozen (p := ⟨b, o, none⟩) hb⟩
theorem w8 (n : Int) (h0 : 0 ≤ n) (h1 : n < 256) : IntKind.u8.wrap n = n := by rw [IntKind.wrap_u8]; omega

/- a row of bytes that the call owns, made a string -/
/- one byte in a block, made a string -/
/- two strings joined -/
end Go.Proofs.YthfbpilfdfploaaGreat
namespace Go.Proofs.YthfbpilfdfploaaGreat.Idn

/- a path of which every organisation is from 0 to 15 and stands once -/
def pathB : List Int → List Int → Bool
  | _, [] => true
  | seen, o :: r => decide (0 ≤ o) && decide (o < 16) && !(seen.contains o) && pathB (seen ++ [o]) r

def stepsB (l : List (Int × Int)) : Bool := l.all fun h => decide (0 ≤ h.1) && decide (h.1 < 8)

def path (r : Int) (l : List (Int × Int)) : List Int := r :: l.map (·.2)

def mayB (r n : Int) (l : List (Int × Int)) : Bool :=
  decide (1 ≤ n) && decide (n ≤ 999999) && decide (l.length ≤ 4) && stepsB l && pathB [] (path r l)


/- the hops alone, one by one -/
def hopsB (r : Int) : List Int → List (Int × Int) → Bool
  | _, [] => true
  | seen, h :: t => decide (0 ≤ h.1) && decide (h.1 < 8) && decide (0 ≤ h.2) && decide (h.2 < 16) && !(h.2 == r) && !(seen.contains h.2) && hopsB r (seen ++ [h.2]) t

theorem hops_path (r : Int) (l : List (Int × Int)) : ∀ seen, hopsB r seen l = (stepsB l && pathB (r :: seen) (l.map (·.2))) := by
  induction l with
  | nil => intro seen; rfl
  | cons h t ih =>
    intro seen
    have e1 : stepsB (h :: t) = (decide (0 ≤ h.1) && decide (h.1 < 8) && stepsB t) := rfl
    have e2 : pathB (r :: seen) ((h :: t).map (·.2)) = (decide (0 ≤ h.2) && decide (h.2 < 16) && !((r :: seen).contains h.2) && pathB ((r :: seen) ++ [h.2]) (t.map (·.2))) := rfl
    have e3 : (r :: seen).contains h.2 = (h.2 == r || seen.contains h.2) := rfl
    rw [hopsB, ih, e1, e2, e3, List.cons_append]
    generalize decide (0 ≤ h.1) = a
    generalize decide (h.1 < 8) = b
    generalize decide (0 ≤ h.2) = c
    generalize decide (h.2 < 16) = d
    generalize (h.2 == r) = e
    generalize seen.contains h.2 = f
    generalize stepsB t = g
    generalize pathB _ _ = k
    revert a b c d e f g k
    decide
theorem may_hops (r n : Int) (l : List (Int × Int)) : mayB r n l = (decide (1 ≤ n) && decide (n ≤ 999999) && decide (l.length ≤ 4) && decide (0 ≤ r) && decide (r < 16) && hopsB r [] l) := by
  have e2 : pathB [] (path r l) = (decide (0 ≤ r) && decide (r < 16) && pathB [r] (l.map (·.2))) := by
    show (decide (0 ≤ r) && decide (r < 16) && !(([] : List Int).contains r) && pathB ([] ++ [r]) (l.map (·.2))) = _
    simp
  rw [mayB, hops_path, e2]
  generalize decide (1 ≤ n) = a
  generalize decide (n ≤ 999999) = b
  generalize decide (l.length ≤ 4) = c
  generalize decide (0 ≤ r) = d
  generalize decide (r < 16) = e
  generalize stepsB l = g
  generalize pathB _ _ = k
  revert a b c d e g k
  decide
end Go.Proofs.YthfbpilfdfploaaGreat.Idn
namespace Go.Proofs.YthfbpilfdfploaaGreat
open Go.RowKit

theorem Gr.grownBy {w w' : World} (h : Gr w w') : w.grownBy w' none := ⟨h.below.os, h.below.tape, h.below.output, h.below.size, fun k hk _ => h.below.block k hk⟩
theorem Gr.keep {W w1 : World} (g : Gr W w1) {p : Addr} {v : Value} (h : W.cell? p = some v) : w1.cell? p = some v :=
  (g.below.cell (World.block_lt_of_cell? W p h)).trans h

/- a row of hops in memory, its address whatever where there is none -/
def HopsAt (w : World) (ad : Option Addr) (L : List (Int × Int)) : Prop :=
  ∀ j (h : j < L.length), ∃ b off, ad = some ⟨b, off, none⟩ ∧ b < w.heap.size ∧ w.cell? ⟨b, off + j * 2, none⟩ = some (.int .i64 L[j].1) ∧ w.cell? ⟨b, off + j * 2 + 1, none⟩ = some (.int .i64 L[j].2)
theorem HopsAt.gr {w w' : World} {ad : Option Addr} {L : List (Int × Int)} (h : HopsAt w ad L) (g : Gr w w') : HopsAt w' ad L := by
  intro j hj
  obtain ⟨b, off, e, hb, hc, hd⟩ := h j hj
  exact ⟨b, off, e, Nat.lt_of_lt_of_le hb g.size, g.keep hc, g.keep hd⟩
theorem HopsAt.nil {w : World} {ad : Option Addr} : HopsAt w ad [] := fun j h => absurd h (by simp)
theorem HopsAt.take {w : World} {ad : Option Addr} {L : List (Int × Int)} (h : HopsAt w ad L) (k : Nat) : HopsAt w ad (L.take k) := by
  intro j hj
  have hj' : j < L.length := by rw [List.length_take] at hj; omega
  obtain ⟨b, off, e, hb, hc, hd⟩ := h j hj'
  exact ⟨b, off, e, hb, by rw [List.getElem_take]; exact hc, by rw [List.getElem_take]; exact hd⟩

/- a row of integers in memory -/
def IntsAt (w : World) (ad : Option Addr) (l : List Int) : Prop :=
  ∀ j (h : j < l.length), ∃ b off, ad = some ⟨b, off, none⟩ ∧ b < w.heap.size ∧ w.cell? ⟨b, off + j, none⟩ = some (.int .i64 l[j])
theorem IntsAt.gr {w w' : World} {ad : Option Addr} {l : List Int} (h : IntsAt w ad l) (g : Gr w w') : IntsAt w' ad l := by
  intro j hj
  obtain ⟨b, off, e, hb, hc⟩ := h j hj
  exact ⟨b, off, e, Nat.lt_of_lt_of_le hb g.size, g.keep hc⟩
theorem IntsAt.take {w : World} {ad : Option Addr} {l : List Int} (h : IntsAt w ad l) (k : Nat) : IntsAt w ad (l.take k) := by
  intro j hj
  have hj' : j < l.length := by rw [List.length_take] at hj; omega
  obtain ⟨b, off, e, hb, hc⟩ := h j hj'
  exact ⟨b, off, e, hb, by rw [List.getElem_take]; exact hc⟩

def intV (l : List Int) : List Value := l.map fun n => Value.int .i64 n
theorem own_or (v : Value) : v.ownBlock = none ∨ v.ownBlock ≠ none := by
  cases v.ownBlock with
  | none => exact Or.inl rfl
  | some q => exact Or.inr (by simp)
theorem own_ints {base : Nat} {v : Value} {l : List Int} {w : World} (h : w.ownsRow base 3 1 v l.length (intV l)) : ∃ ad cap, v = .slice ad l.length cap ∧ l.length ≤ cap ∧ IntsAt w ad l := by
  have hcell := fun g (hg : v.ownBlock = some g) => h.cells hg
  have hlt := h.lt
  obtain ⟨_, ⟨rfl, h0⟩ | ⟨g, cap, cur, rfl, hx⟩⟩ := h
  · have : l = [] := List.length_eq_zero_iff.1 h0
    subst this
    exact ⟨none, 0, rfl, by simp, fun j hj => absurd hj (by simp)⟩
  · refine ⟨some ⟨g, 0, none⟩, cap, rfl, hx.2.2.1, ?_⟩
    intro j hj
    refine ⟨g, 0, rfl, (hlt g rfl).2, ?_⟩
    have := hcell g rfl j (.int .i64 l[j]) (by simp [intV, hj])
    rw [Addr.add_lit] at this
    simpa using this
theorem cell_one_at (w : World) (x : Value) (t : TypeId) (n : Nat) (hn : n = w.heap.size) : ∀ j u, [x][j]? = some u → (w.alloc (.cells #[x] t)).cell? ((⟨n, 0, none⟩ : Addr).add j) = some u := by
  subst hn; exact cell_one_new w x t
theorem own_lit1 (w : World) (base : Nat) (x : Value) (t : TypeId) (g : Nat) (hg : g = w.heap.size) (hb : base ≤ w.heap.size) : (w.alloc (.cells #[x] t)).ownsRow base t 1 (.slice (some ⟨g, 0, none⟩) 1 1) 1 [x] := by
  subst hg; exact World.ownsRow_lit w #[x] 1 hb (by unfold maxLen; omega) rfl
theorem infoInt : (Tryz.prog.info? 3).map (fun i => (i.zero, i.size, i.bytes)) = some (some (.int .i64 0), 1, 8) := by kernel_rfl
theorem infoHop : (Tryz.prog.info? 90).map (fun i => (i.zero, i.size, i.bytes)) = some (some (.agg #[.int .i64 0, .int .i64 0]), 2, 16) := by kernel_rfl
end Go.Proofs.YthfbpilfdfploaaGreat
namespace Go.Proofs.YthfbpilfdfploaaGreat
open Go.RowKit

theorem path_more (r : Int) (L : List (Int × Int)) (k : Nat) (h : k < L.length) : Idn.path r (L.take (k + 1)) = Idn.path r (L.take k) ++ [L[k].2] := by
  unfold Idn.path; rw [List.take_succ_eq_append_getElem h, List.map_append]; rfl
theorem path_len (r : Int) (L : List (Int × Int)) : (Idn.path r L).length = L.length + 1 := by simp [Idn.path]

set_option maxHeartbeats 1000000 in
set_option maxRecDepth 100000 in
theorem pathOf_any (r n : Int) (L : List (Int × Int)) (ad : Option Addr) (cap : Nat) (w : World) (hL : HopsAt w ad L) (hn : L.length ≤ 1000) :
    Calls Tryz.prog 112 #[.agg #[.int .i64 r, .int .i64 n, .slice ad L.length cap]] w fun e w' =>
      ∃ ad2 cap2, e = .returned (.slice ad2 (L.length + 1) cap2) ∧ L.length + 1 ≤ cap2 ∧ IntsAt w' ad2 (Idn.path r L) ∧ Gr w w' := by
  obtain ⟨i0, hi, hz0, hz1, hz2⟩ := info_parts infoInt
  have HL : Hid (HopsAt w ad L) := hL
  clear hL
  go_enter Tryz.func112, Tryz.ntmps112
  go_wp2
  go_loopw [3, 12] (fun p i wr => ∃ k : Nat, k ≤ L.length ∧ i = .int .i64 k ∧ wr.ownsRow w.heap.size 3 1 p (k + 1) (intV (Idn.path r (L.take k))) ∧ Below w.heap.size w wr)
    (fun _ i _ => L.length - (intOf i).toNat)
  case atStart => exact ⟨0, by omega, rfl, own_lit1 _ _ _ _ _ (by simp) (by simp), ((Below.refl _ _).alloc (Nat.le_refl _) _).alloc (by simp) _⟩
  case round =>
    obtain ⟨k, hk, rfl, hown, hb⟩ := hrel
    have hbs := hb.size
    by_cases hlt : k < L.length
    · obtain ⟨b, off, rfl, hbl, hc, hd⟩ := HL.out k hlt
      have hc' := (hb.cell (p := ⟨b, off + k * 2, none⟩) hbl).trans hc
      have hd' := (hb.cell (p := ⟨b, off + k * 2 + 1, none⟩) hbl).trans hd
      have HP : Hid (intV (Idn.path r (L.take (k + 1))) = intV (Idn.path r (L.take k)) ++ [.int .i64 L[k].2]) := by
        show _ = _
        rw [path_more r L k hlt]; simp [intV]
      have hm1 : k + 1 + 1 ≤ maxLen := by unfold maxLen; omega
      obtain ⟨⟨h1, h2⟩, hh⟩ : ∃ h, L[k] = h := ⟨_, rfl⟩
      rw [hh] at hc' hd' HP
      clear hc hd hh
      go_wp2_with (first
        | (at_builtin; refine wpList_append_own _ rfl _ _ 54 rfl w.heap.size 3 i0 (.int .i64 0) 1 8 Tryz.underlying54 hi hz0 hz1 hz2 rfl (by decide) _ _ _ rfl ((hown.alloc _).alloc _) ⟨wr.heap.size + 1, 0, none⟩ 1 1 [.int .i64 h2] rfl rfl (cell_one_at _ _ _ _ (by simp)) (by intro u hu; simp at hu; subst hu; rfl) hm1 (by omega) (by simp; omega) ?_)
        | fail)
      intro v' w1 hown' hgrow _
      go_wp2
      go_roundw
      case rel =>
        exact ⟨k + 1, by omega, by go_num, by rw [HP.out]; exact hown', ((hb.alloc hbs _).alloc (by simp; omega) _).grown hgrow (by simp; omega) (fun k hk => (hown.lt k hk).1)⟩
      case measure => simp [intOf]; omega
    · have hkl : k = L.length := by omega
      subst hkl
      have key : ∀ {u : Value}, wr.ownsRow w.heap.size 3 1 u (L.length + 1) (intV (Idn.path r (L.take L.length))) → ∃ ad2 cap2, u = .slice ad2 (L.length + 1) cap2 ∧ L.length + 1 ≤ cap2 ∧ IntsAt wr ad2 (Idn.path r L) := by
        intro u h
        rw [List.take_length] at h
        have := own_ints (l := Idn.path r L) (by rw [path_len]; exact h)
        rw [path_len] at this
        exact this
      obtain ⟨ad2, cap2, rfl, hcp, hia⟩ := key hown
      have HI : Hid (IntsAt wr ad2 (Idn.path r L)) := hia
      clear hown key hia
      go_wp2
      go_ret
      exact ⟨ad2, cap2, rfl, hcp, HI.out, ⟨hb⟩⟩
end Go.Proofs.YthfbpilfdfploaaGreat
namespace Go.Proofs.YthfbpilfdfploaaGreat
open Go.RowKit

def errB (b : Bool) : Int := if b = true then 0 else 30

set_option maxHeartbeats 1000000 in
set_option maxRecDepth 100000 in
theorem checkPath_any (l : List Int) (ad : Option Addr) (cap : Nat) (w : World) (hL : IntsAt w ad l) (hn : l.length ≤ 1001) (hcap : l.length ≤ cap) :
    Calls Tryz.prog 111 #[.slice ad l.length cap] w fun e w' => e = .returned (.int .i64 (errB (Idn.pathB [] l))) ∧ w' = w := by
  have HL : Hid (IntsAt w ad l) := hL
  clear hL
  go_enter Tryz.func111, Tryz.ntmps111
  go_wp2
  go_loop [7] (fun i => ∃ k : Nat, k ≤ l.length ∧ i = .int .i64 k ∧ Idn.pathB [] l = Idn.pathB (l.take k) (l.drop k)) (fun i => l.length - (intOf i).toNat)
  case atStart => exact ⟨0, by omega, rfl, by simp⟩
  case round =>
    obtain ⟨k, hk, rfl, hp⟩ := hrel
    have HP : Hid (Idn.pathB [] l = Idn.pathB (l.take k) (l.drop k)) := hp
    clear hp
    by_cases hlt : k < l.length
    · obtain ⟨b, off, rfl, hbl, hc⟩ := HL.out k hlt
      have HP2 : Hid (Idn.pathB [] l = (decide (0 ≤ l[k]) && decide (l[k] < 16) && !((l.take k).contains l[k]) && Idn.pathB (l.take (k + 1)) (l.drop (k + 1)))) := by
        show _ = _
        rw [HP.out, List.drop_eq_getElem_cons hlt, Idn.pathB, List.take_succ_eq_append_getElem hlt]
      have hall : ∀ j, j < l.length → w.cell? ⟨b, off + j, none⟩ = some (.int .i64 (l.getD j 0)) := by
        intro j hj
        obtain ⟨b', off', e, _, h⟩ := HL.out j hj
        simp at e
        obtain ⟨rfl, rfl⟩ := e
        rw [h, List.getD_eq_getElem?_getD, List.getElem?_eq_getElem hj]; rfl
      have HC : Hid (Calls Tryz.prog 122 #[.slice (some ⟨b, off, none⟩) k cap, .int .i64 l[k]] w fun e w' => e = .returned (.bool ((l.take k).contains l[k])) ∧ w' = w) := Tryz.slices_Contains_int b off k cap l l[k] w (by omega) (by omega) hall
      generalize (l.take k).contains l[k] = ct at HC HP2
      generalize l[k] = o at *
      clear hall
      by_cases h0 : 0 ≤ o
      · by_cases h1 : o < 16
        · cases ct with
          | true =>
            go_wp2_with fail
            refine HC.out.mono ?_
            rintro e1 w1 ⟨rfl, hw1⟩; obtain rfl := hw1.symm
            go_wp2
            go_ret
            exact ⟨by rw [HP2.out]; simp [errB], rfl⟩
          | false =>
            go_wp2_with fail
            refine HC.out.mono ?_
            rintro e1 w1 ⟨rfl, hw1⟩; obtain rfl := hw1.symm
            go_wp2
            go_round
            case rel => exact ⟨k + 1, by omega, by go_num, by rw [HP2.out]; simp [h0, h1]⟩
            case measure => simp [intOf]; omega
        · have HF : Hid (Idn.pathB [] l = false) := by show _ = _; rw [HP2.out]; simp [h1]
          go_wp2
          go_ret
          exact ⟨by rw [HF.out]; rfl, rfl⟩
      · have HF : Hid (Idn.pathB [] l = false) := by show _ = _; rw [HP2.out]; simp [h0]
        go_wp2
        go_ret
        exact ⟨by rw [HF.out]; rfl, rfl⟩
    · go_wp2
      go_ret
      exact ⟨by rw [HP.out, List.drop_eq_nil_of_le (by omega)]; rfl, rfl⟩

set_option maxHeartbeats 1000000 in
set_option maxRecDepth 100000 in
theorem check_any (r n : Int) (L : List (Int × Int)) (ad : Option Addr) (cap : Nat) (w : World) (hL : HopsAt w ad L) (hn : L.length ≤ 9223372036854775807) :
    Calls Tryz.prog 95 #[.agg #[.int .i64 r, .int .i64 n, .slice ad L.length cap]] w fun e w' => e = .returned (.int .i64 (errB (Idn.mayB r n L))) ∧ Gr w w' := by
  by_cases h1 : 1 ≤ n
  · by_cases h2 : n ≤ 999999
    · by_cases h3 : L.length ≤ 4
      · have HM : Hid (Idn.mayB r n L = (Idn.stepsB L && Idn.pathB [] (Idn.path r L))) := by
          show _ = _
          simp [Idn.mayB, h1, h2, h3]
        have HL : Hid (HopsAt w ad L) := hL
        have HO : Hid (∀ w', Gr w w' → Calls Tryz.prog 112 #[.agg #[.int .i64 r, .int .i64 n, .slice ad L.length cap]] w' fun e w2 => ∃ ad2 cap2, e = .returned (.slice ad2 (L.length + 1) cap2) ∧ L.length + 1 ≤ cap2 ∧ IntsAt w2 ad2 (Idn.path r L) ∧ Gr w' w2) := fun w' g => pathOf_any r n L ad cap w' (hL.gr g) (by omega)
        clear hL
        go_enter Tryz.func95, Tryz.ntmps95
        go_wp2
        go_loopw [22] (fun i wr => ∃ k : Nat, k ≤ L.length ∧ i = .int .i64 k ∧ Idn.stepsB L = Idn.stepsB (L.drop k) ∧ Below (w.heap.size + 1) (w.alloc (.cells #[.int .i64 r, .int .i64 n, .slice ad L.length cap] 34)) wr) (fun i _ => L.length - (intOf i).toNat)
        case atStart => exact ⟨0, by omega, rfl, rfl, Below.refl _ _⟩
        case round =>
          obtain ⟨k, hk, rfl, hs, hb⟩ := hrel
          have hbs : w.heap.size + 1 ≤ wr.heap.size := by have := hb.size; simpa using this
          have HS : Hid (Idn.stepsB L = Idn.stepsB (L.drop k)) := hs
          have hgr : Gr w wr := ⟨((Below.refl _ _).alloc (Nat.le_refl _) _).trans (hb.mono (by omega))⟩
          have q0 : wr.cell? ⟨w.heap.size, 0, none⟩ = some (.int .i64 r) := (hb.cell (p := ⟨w.heap.size, 0, none⟩) (by simp)).trans (by simp)
          have q1 : wr.cell? ⟨w.heap.size, 1, none⟩ = some (.int .i64 n) := (hb.cell (p := ⟨w.heap.size, 1, none⟩) (by simp)).trans (by simp)
          have q2 : wr.cell? ⟨w.heap.size, 2, none⟩ = some (.slice ad L.length cap) := (hb.cell (p := ⟨w.heap.size, 2, none⟩) (by simp)).trans (by simp)
          clear hs
          by_cases hlt : k < L.length
          · obtain ⟨b, off, rfl, hbl, hc, hd⟩ := HL.out k hlt
            have hc' := hgr.keep hc
            have hd' := hgr.keep hd
            have HS2 : Hid (Idn.stepsB L = (decide (0 ≤ L[k].1) && decide (L[k].1 < 8) && Idn.stepsB (L.drop (k + 1)))) := by
              show _ = _
              rw [HS.out, List.drop_eq_getElem_cons hlt]; rfl
            obtain ⟨⟨p1, p2⟩, hh⟩ : ∃ h, L[k] = h := ⟨_, rfl⟩
            rw [hh] at hc' hd' HS2
            clear hc hd hh HL
            by_cases g0 : 0 ≤ p1
            · by_cases g1 : p1 < 8
              · go_wp2
                go_roundw
                case rel => exact ⟨k + 1, by omega, by go_num, by rw [HS2.out]; simp [g0, g1], hb.alloc hbs _⟩
                case measure => simp [intOf]; omega
              · have HF : Hid (Idn.mayB r n L = false) := by show _ = _; rw [HM.out, HS2.out]; simp [g1]
                go_wp2
                go_ret
                exact ⟨by rw [HF.out]; rfl, ⟨hgr.below.alloc hgr.size _⟩⟩
            · have HF : Hid (Idn.mayB r n L = false) := by show _ = _; rw [HM.out, HS2.out]; simp [g0]
              go_wp2
              go_ret
              exact ⟨by rw [HF.out]; rfl, ⟨hgr.below.alloc hgr.size _⟩⟩
          · have HM2 : Hid (Idn.mayB r n L = Idn.pathB [] (Idn.path r L)) := by
              show _ = _
              rw [HM.out, HS.out, List.drop_eq_nil_of_le (by omega)]; simp [Idn.stepsB]
            have HC : Hid (∀ (w' : World) (ad2 : Option Addr) (cap2 : Nat), IntsAt w' ad2 (Idn.path r L) → L.length + 1 ≤ cap2 → Calls Tryz.prog 111 #[.slice ad2 (L.length + 1) cap2] w' fun e w2 => e = .returned (.int .i64 (errB (Idn.pathB [] (Idn.path r L)))) ∧ w2 = w') := by
              intro w' ad2 cap2 hi hc
              have := checkPath_any (Idn.path r L) ad2 cap2 w' hi (by rw [path_len]; omega) (by rw [path_len]; exact hc)
              rw [path_len] at this
              exact this
            go_wp2_with fail
            refine (HO.out _ hgr).mono ?_
            rintro e1 w1 ⟨ad2, cap2, rfl, hcp, hia, hg1⟩
            go_wp2_with fail
            refine (HC.out _ _ _ hia hcp).mono ?_
            rintro e2 w2 ⟨rfl, hw2⟩; obtain rfl := hw2.symm
            go_wp2
            go_ret
            exact ⟨by rw [HM2.out]; rfl, hgr.trans hg1⟩
      · have h3' : ((4 : Int) < L.length) := by omega
        have HM : Hid (Idn.mayB r n L = false) := by show _ = _; simp [Idn.mayB, h3]
        go_enter Tryz.func95, Tryz.ntmps95
        go_wp2
        go_ret
        exact ⟨by rw [HM.out]; rfl, ⟨(Below.refl _ _).alloc (Nat.le_refl _) _⟩⟩
    · have HM : Hid (Idn.mayB r n L = false) := by show _ = _; simp [Idn.mayB, h2]
      go_enter Tryz.func95, Tryz.ntmps95
      go_wp2
      go_ret
      exact ⟨by rw [HM.out]; rfl, ⟨(Below.refl _ _).alloc (Nat.le_refl _) _⟩⟩
  · have HM : Hid (Idn.mayB r n L = false) := by show _ = _; simp [Idn.mayB, h1]
    go_enter Tryz.func95, Tryz.ntmps95
    go_wp2
    go_ret
    exact ⟨by rw [HM.out]; rfl, ⟨(Below.refl _ _).alloc (Nat.le_refl _) _⟩⟩
end Go.Proofs.YthfbpilfdfploaaGreat
namespace Go.Proofs.YthfbpilfdfploaaGreat
open Go.RowKit

def hopV (L : List (Int × Int)) : List Value := L.flatMap fun h => [.int .i64 h.1, .int .i64 h.2]
theorem hopV_len (L : List (Int × Int)) : (hopV L).length = L.length * 2 := by
  induction L with
  | nil => rfl
  | cons h t ih => simp [hopV] at ih ⊢; omega
theorem hopV_get (L : List (Int × Int)) : ∀ j (h : j < L.length), (hopV L)[j * 2]? = some (.int .i64 L[j].1) ∧ (hopV L)[j * 2 + 1]? = some (.int .i64 L[j].2) := by
  induction L with
  | nil => intro j h; simp at h
  | cons x t ih =>
    intro j h
    have e : hopV (x :: t) = .int .i64 x.1 :: .int .i64 x.2 :: hopV t := rfl
    rw [e]
    cases j with
    | zero => exact ⟨rfl, rfl⟩
    | succ j =>
      obtain ⟨h1, h2⟩ := ih j (by simpa using h)
      refine ⟨?_, ?_⟩
      · have : (j + 1) * 2 = j * 2 + 1 + 1 := by omega
        rw [this]; simpa using h1
      · have : (j + 1) * 2 + 1 = j * 2 + 1 + 1 + 1 := by omega
        rw [this]; simpa using h2
theorem hopV_one (L : List (Int × Int)) : ∀ u ∈ hopV L, u.oneCell' = true := by
  intro u hu
  simp only [hopV, List.mem_flatMap] at hu
  obtain ⟨h, _, hu⟩ := hu
  simp at hu
  rcases hu with rfl | rfl <;> rfl
/- what hops in memory are, cell by cell -/
theorem HopsAt.news {w : World} {b off : Nat} {L : List (Int × Int)} (h : HopsAt w (some ⟨b, off, none⟩) L) : ∀ j u, (hopV L)[j]? = some u → w.cell? ((⟨b, off, none⟩ : Addr).add j) = some u := by
  intro j u hu
  have hj : j < L.length * 2 := by
    rw [← hopV_len]
    exact (List.getElem?_eq_some_iff.1 hu).1
  have hj2 : j / 2 < L.length := by omega
  obtain ⟨b', off', e, _, h1, h2⟩ := h (j / 2) hj2
  simp at e
  obtain ⟨rfl, rfl⟩ := e
  obtain ⟨g1, g2⟩ := hopV_get L (j / 2) hj2
  rw [Addr.add_lit]
  rcases Nat.mod_two_eq_zero_or_one j with hm | hm
  · have e : j = j / 2 * 2 := by omega
    rw [e] at hu ⊢
    rw [g1] at hu
    rw [← hu]; exact h1
  · have e : j = j / 2 * 2 + 1 := by omega
    rw [e] at hu ⊢
    rw [g2] at hu
    rw [← hu, ← Nat.add_assoc]; exact h2
/- a row of hops that the call owns -/
theorem own_hops {base : Nat} {v : Value} {L : List (Int × Int)} {w : World} (h : w.ownsRow base 90 2 v L.length (hopV L)) : ∃ ad cap, v = .slice ad L.length cap ∧ L.length ≤ cap ∧ HopsAt w ad L ∧ ∀ a, ad = some a → base ≤ a.block := by
  have hcell := fun g (hg : v.ownBlock = some g) => h.cells hg
  have hlt := h.lt
  obtain ⟨_, ⟨rfl, h0⟩ | ⟨g, cap, cur, rfl, hx⟩⟩ := h
  · have : L = [] := List.length_eq_zero_iff.1 h0
    subst this
    exact ⟨none, 0, rfl, by simp, HopsAt.nil, fun a e => by cases e⟩
  · refine ⟨some ⟨g, 0, none⟩, cap, rfl, hx.2.2.1, ?_, fun a e => by cases e; exact (hlt g rfl).1⟩
    intro j hj
    obtain ⟨g1, g2⟩ := hopV_get L j hj
    have c1 := hcell g rfl _ _ g1
    have c2 := hcell g rfl _ _ g2
    rw [Addr.add_lit] at c1 c2
    exact ⟨g, 0, rfl, (hlt g rfl).2, c1, by rw [← Nat.add_assoc] at c2; exact c2⟩
theorem HopsAt.alloc {w : World} {ad : Option Addr} {L : List (Int × Int)} {ob : Obj} (h : HopsAt w ad L) : HopsAt (w.alloc ob) ad L := h.gr (Gr.refl _).alloc
theorem HopsAt.drew {w : World} {ad : Option Addr} {L : List (Int × Int)} (h : HopsAt w ad L) : HopsAt w.drew ad L := h.gr (Gr.refl _).drew
theorem HopsAt.set {w : World} {ad : Option Addr} {L : List (Int × Int)} (h : HopsAt w ad L) (p : Addr) (v : Value) (hp : ∀ a, ad = some a → p.block ≠ a.block) : HopsAt (w.setCell p v) ad L := by
  intro j hj
  obtain ⟨b, off, e, hb, h1, h2⟩ := h j hj
  have hne : p.block ≠ b := hp _ e
  refine ⟨b, off, e, by simpa using hb, ?_, ?_⟩
  · rw [World.cell?_setCell_far _ _ _ _ (by simpa using hne)]; exact h1
  · rw [World.cell?_setCell_far _ _ _ _ (by simpa using hne)]; exact h2
theorem own_lit0 (w : World) (base : Nat) (t : TypeId) (g : Nat) (hg : g = w.heap.size) (hb : base ≤ w.heap.size) : (w.alloc (.cells #[] t)).ownsRow base t 2 (.slice (some ⟨g, 0, none⟩) 0 0) 0 [] := by
  subst hg; exact World.ownsRow_lit w #[] 0 hb (by unfold maxLen; omega) rfl

set_option maxHeartbeats 1000000 in
set_option maxRecDepth 100000 in
theorem clone_any (L : List (Int × Int)) (b off cap : Nat) (w : World) (hL : HopsAt w (some ⟨b, off, none⟩) L) (hn : L.length ≤ 1000) :
    Calls Tryz.prog 96 #[.slice (some ⟨b, off, none⟩) L.length cap] w fun e w' => ∃ ad2 cap2, e = .returned (.slice ad2 L.length cap2) ∧ L.length ≤ cap2 ∧ HopsAt w' ad2 L ∧ (∀ a, ad2 = some a → w.heap.size ≤ a.block) ∧ Gr w w' := by
  obtain ⟨i0, hi, hz0, hz1, hz2⟩ := info_parts infoHop
  have hnews := (hL.gr ((Gr.refl w).alloc (o := .cells #[] 90))).news
  have HN : Hid (∀ j u, (hopV L)[j]? = some u → (w.alloc (.cells #[] 90)).cell? ((⟨b, off, none⟩ : Addr).add j) = some u) := hnews
  have hln := hopV_len L
  have hm1 : 0 + L.length ≤ maxLen := by unfold maxLen; omega
  clear hL hnews
  have he : ∀ w : World, (binOp .eql 32 (.slice (some ⟨b, off, none⟩) L.length cap) (.slice none 0 0)).run Tryz.prog w = .ok (.bool false) w := fun _ => rfl
  go_enter Tryz.func96, Tryz.ntmps96
  go_wp2_with (first
    | (at_builtin; refine wpList_append_own _ rfl _ _ 32 rfl w.heap.size 90 i0 (.agg #[.int .i64 0, .int .i64 0]) 2 16 Tryz.underlying32 hi hz0 hz1 hz2 rfl (by decide) _ _ _ rfl (own_lit0 _ _ _ _ (by simp) (by simp)) ⟨b, off, none⟩ L.length cap (hopV L) rfl hln HN.out (hopV_one L) hm1 (by omega) (by simp) ?_)
    | fail)
  intro v' w1 hown' hgrow _
  obtain ⟨ad2, cap2, rfl, hcp, hia, hfr⟩ := own_hops hown'
  have HI : Hid (HopsAt w1 ad2 L) := hia
  have HFR : Hid (∀ a, ad2 = some a → w.heap.size ≤ a.block) := hfr
  have hb1 : Below w.heap.size w (w.alloc (.cells #[] 90)) := (Below.refl w.heap.size w).alloc (Nat.le_refl _) _
  have HG : Hid (Gr w w1) := ⟨hb1.grown hgrow (by simp) (fun k hk => by simp [Value.ownBlock] at hk; omega)⟩
  clear hown' hia hfr
  go_wp2
  go_ret
  exact ⟨ad2, cap2, rfl, hcp, HI.out, HFR.out, HG.out⟩

end Go.Proofs.YthfbpilfdfploaaGreat
namespace Go.Proofs.YthfbpilfdfploaaGreat
open Go.RowKit

theorem Gr.set {a b : World} (h : Gr a b) (p : Addr) (hp : a.heap.size ≤ p.block) (v : Value) : Gr a (b.setCell p v) := ⟨h.below.setCell hp v⟩

/- a struct of three cells in memory that may be written -/
structure BoxAt (w : World) (g : Nat) (a b c : Value) : Prop where
  c0 : w.cell? ⟨g, 0, none⟩ = some a
  c1 : w.cell? ⟨g, 1, none⟩ = some b
  c2 : w.cell? ⟨g, 2, none⟩ = some c
  f0 : w.frozen? ⟨g, 0, none⟩ = false
  f1 : w.frozen? ⟨g, 1, none⟩ = false
  f2 : w.frozen? ⟨g, 2, none⟩ = false
  lt : g < w.heap.size
theorem Gr.keepF {W w1 : World} (g : Gr W w1) {p : Addr} (hb : p.block < W.heap.size) (h : W.frozen? p = false) : w1.frozen? p = false := (g.below.frozen hb).trans h
theorem BoxAt.gr {w w' : World} {g : Nat} {a b c : Value} (h : BoxAt w g a b c) (k : Gr w w') : BoxAt w' g a b c :=
  ⟨k.keep h.c0, k.keep h.c1, k.keep h.c2, k.keepF h.lt h.f0, k.keepF h.lt h.f1, k.keepF h.lt h.f2, Nat.lt_of_lt_of_le h.lt k.size⟩
theorem BoxAt.new (w : World) (a b c : Value) (t : TypeId) (g : Nat) (hg : g = w.heap.size) : BoxAt (w.alloc (.cells #[a, b, c] t)) g a b c := by
  subst hg
  exact ⟨by simp, by simp, by simp, by simp [go_sem], by simp [go_sem], by simp [go_sem], by simp⟩

set_option maxHeartbeats 8000000 in
set_option maxRecDepth 100000 in
theorem parent_yes (r n s o : Int) (M : List (Int × Int)) (b off : Nat) (cap : Nat) (w : World) (hL : HopsAt w (some ⟨b, off, none⟩) (M ++ [(s, o)])) (hcap : M.length + 1 ≤ cap) (hm : Idn.mayB r n (M ++ [(s, o)]) = true) (h4 : M.length ≤ 3) :
    Calls Tryz.prog 64 #[.agg #[.int .i64 r, .int .i64 n, .slice (some ⟨b, off, none⟩) (M.length + 1) cap]] w fun e w' =>
      ∃ ad2 cap2, e = .returned (.tuple #[.agg #[.int .i64 r, .int .i64 n, .slice ad2 M.length cap2], .int .i64 s, .bool true]) ∧ M.length ≤ cap2 ∧ HopsAt w' ad2 M ∧ Gr w w' := by
  have HC : Hid (∀ w', Gr w w' → Calls Tryz.prog 95 #[.agg #[.int .i64 r, .int .i64 n, .slice (some ⟨b, off, none⟩) (M.length + 1) cap]] w' fun e w2 => e = .returned (.int .i64 0) ∧ Gr w' w2) := by
    intro w' g
    have := check_any r n (M ++ [(s, o)]) (some ⟨b, off, none⟩) cap w' (hL.gr g) (by simp; omega)
    rw [hm, List.length_append] at this
    exact this
  have HK : Hid (∀ w', Gr w w' → Calls Tryz.prog 96 #[.slice (some ⟨b, off, none⟩) M.length cap] w' fun e w2 => ∃ ad2 cap2, e = .returned (.slice ad2 M.length cap2) ∧ M.length ≤ cap2 ∧ HopsAt w2 ad2 M ∧ (∀ a, ad2 = some a → w'.heap.size ≤ a.block) ∧ Gr w' w2) := by
    intro w' g
    refine clone_any M b off cap w' ?_ (by omega)
    have := hL.take M.length
    rw [List.take_left] at this
    exact this.gr g
  obtain ⟨b', off', e, hbl, hc, _⟩ := hL M.length (by simp)
  simp at e
  obtain ⟨rfl, rfl⟩ := e
  simp at hc
  have hne : (((M.length : Int) + 1) == 0) = false := by rw [beq_eq_false_iff_ne]; omega
  have hm1 : (M.length : Int) ≤ cap := by omega
  have hm0 : (0 : Int) ≤ M.length := by omega
  clear hL hm
  go_enter Tryz.func64, Tryz.ntmps64
  go_wp2_with fail
  refine (HC.out _ (by repeat(first|exact Gr.r _|refine Gr.a ?_|refine Gr.d ?_|refine Gr.t ?_ (by assumption)))).mono ?_
  rintro e1 w1 ⟨rfl, hg1⟩
  have p0 : w1.cell? ⟨w.heap.size, 0, none⟩ = some (.int .i64 r) := hg1.keep (by simp)
  have p1 : w1.cell? ⟨w.heap.size, 1, none⟩ = some (.int .i64 n) := hg1.keep (by simp)
  have p2 : w1.cell? ⟨w.heap.size, 2, none⟩ = some (.slice (some ⟨b, off, none⟩) (M.length + 1) cap) := hg1.keep (by simp)
  have hw1 : w.heap.size ≤ w1.heap.size := by have := hg1.size; simp at this; omega
  have hw2 : w.heap.size + 1 < w1.heap.size := by have := hg1.size; simp at this; omega
  have bx : BoxAt w1 (w.heap.size + 1) (.int .i64 0) (.int .i64 0) (.slice none 0 0) := (BoxAt.new _ _ _ _ _ _ (by simp)).gr hg1
  have hgw : Gr w w1 := (by repeat(first|exact Gr.r _|refine Gr.a ?_|refine Gr.d ?_|refine Gr.t ?_ (by assumption)))
  have hh := hgw.keep hc
  have hbw : b < w1.heap.size := by omega
  clear hgw
  have hn1 : w.heap.size + 1 ≠ w1.heap.size := by omega
  have hn2 : w.heap.size ≠ w1.heap.size := by omega
  have hn3 : b ≠ w1.heap.size := by omega
  have hn4 : b ≠ w.heap.size + 1 := by omega
  have hlt : (M.length : Int) < M.length + 1 := by omega
  go_wp2
  go_region_held3 (fun w' => Gr w w' ∧ Gr w1 w' ∧ w'.cell? ⟨w.heap.size, 0, none⟩ = some (.int .i64 r) ∧ w'.cell? ⟨w.heap.size, 1, none⟩ = some (.int .i64 n) ∧ w'.cell? ⟨w.heap.size, 2, none⟩ = some (.slice (some ⟨b, off, none⟩) (M.length + 1) cap))
    ((go_split_ands; exact ⟨(by (with_reducible repeat' (first | exact Gr.refl _ | refine Gr.set ?_ _ ?_ _ | refine Gr.alloc ?_ | refine Gr.drew ?_ | refine Gr.trans ?_ (by assumption))) <;> (first | (simp; done) | (simp; omega) | omega)), (by (with_reducible repeat' (first | exact Gr.refl _ | refine Gr.set ?_ _ ?_ _ | refine Gr.alloc ?_ | refine Gr.drew ?_ | refine Gr.trans ?_ (by assumption))) <;> (first | (simp; done) | (simp; omega) | omega)), Gr.keep (W := w1) (by (with_reducible repeat' (first | exact Gr.refl _ | refine Gr.set ?_ _ ?_ _ | refine Gr.alloc ?_ | refine Gr.drew ?_ | refine Gr.trans ?_ (by assumption))) <;> (first | (simp; done) | (simp; omega) | omega)) p0, Gr.keep (W := w1) (by (with_reducible repeat' (first | exact Gr.refl _ | refine Gr.set ?_ _ ?_ _ | refine Gr.alloc ?_ | refine Gr.drew ?_ | refine Gr.trans ?_ (by assumption))) <;> (first | (simp; done) | (simp; omega) | omega)) p1, Gr.keep (W := w1) (by (with_reducible repeat' (first | exact Gr.refl _ | refine Gr.set ?_ _ ?_ _ | refine Gr.alloc ?_ | refine Gr.drew ?_ | refine Gr.trans ?_ (by assumption))) <;> (first | (simp; done) | (simp; omega) | omega)) p2⟩))
    ((first | (go_at_call 96; refine (HK.out _ ?_).mono ?_; (go_split_ands; exact (by repeat(first|exact Gr.r _|refine Gr.a ?_|refine Gr.d ?_|refine Gr.t ?_ (by assumption)))); rintro e w2 ⟨ad2, cap2, rfl, hcp, hia, hfr, hg2⟩; obtain ⟨hc2, hf2⟩ := hg2.cells; have hg3 : Gr w1 w2 := (by exact (by repeat(first|exact Gr.r _|refine Gr.a ?_|refine Gr.d ?_|refine Gr.t ?_ (by assumption)))); obtain ⟨b0, b1, b2, b3, b4, b5, b6⟩ := bx.gr hg3; have hz2 := hg2.size; simp at hz2; have hz3 : b < w2.heap.size := (by omega); have hz4 : w.heap.size < w2.heap.size := (by omega); have y1 := hg3.keep hh; have y2 := hg3.keep p2)))
  all_goals go_wp2
  all_goals go_region
  all_goals go_wp2
  all_goals
    exact bodyPost_ret (v := .tuple #[.agg #[.int .i64 r, .int .i64 n, .slice ad2 M.length cap2], .int .i64 s, .bool true]) (by simp [results, Tryz.results64, go_sem, b0, b1, b2, b6]) rfl ⟨ad2, cap2, rfl, hcp, (by (repeat' (first | with_reducible exact hia | with_reducible refine HopsAt.set ?_ _ _ ?_ | with_reducible refine HopsAt.alloc ?_ | with_reducible refine HopsAt.drew ?_)) <;> (intro a e; have := hfr a e; simp at this ⊢; omega)), (by (with_reducible repeat' (first | exact Gr.refl _ | refine Gr.set ?_ _ ?_ _ | refine Gr.alloc ?_ | refine Gr.drew ?_ | refine Gr.trans ?_ (by assumption))) <;> (first | (simp; done) | (simp; omega) | omega))⟩
end Go.Proofs.YthfbpilfdfploaaGreat
namespace Go.Proofs.YthfbpilfdfploaaGreat
open Go.RowKit

/- a row of integers in memory, its address whatever where there is none -/
theorem IntsAt.drop {w : World} {b off : Nat} {l : List Int} (h : IntsAt w (some ⟨b, off, none⟩) l) (k : Nat) : IntsAt w (some ⟨b, off + k, none⟩) (l.drop k) := by
  intro j hj
  rw [List.length_drop] at hj
  obtain ⟨b', off', e, hb, hc⟩ := h (k + j) (by omega)
  cases e
  exact ⟨b, off + k, rfl, hb, by rw [List.getElem_drop, Nat.add_assoc]; exact hc⟩
theorem IntsAt.nil {w : World} {ad : Option Addr} : IntsAt w ad [] := fun j h => absurd h (by simp)
theorem intV_snoc (l : List Int) (a : Int) : intV (l ++ [a]) = intV l ++ [.int .i64 a] := by simp [intV]
end Go.Proofs.YthfbpilfdfploaaGreat
namespace Go.Proofs.YthfbpilfdfploaaGreat
open Go.RowKit

/- a struct of three cells in memory that may be written -/
/- a struct of three cells that may be written, whatever it holds -/
def RoomAt (w : World) (g : Nat) : Prop := ∃ a b c, BoxAt w g a b c
theorem RoomAt.gr {w w' : World} {g : Nat} (h : RoomAt w g) (k : Gr w w') : RoomAt w' g := by
  obtain ⟨a, b, c, h⟩ := h
  exact ⟨a, b, c, h.gr k⟩
theorem RoomAt.drew {w : World} {g : Nat} (h : RoomAt w g) : RoomAt w.drew g := h.gr (Gr.refl _).drew
theorem RoomAt.new (w : World) (a b c : Value) (t : TypeId) (g : Nat) (hg : g = w.heap.size) : RoomAt (w.alloc (.cells #[a, b, c] t)) g := ⟨a, b, c, BoxAt.new w a b c t g hg⟩
end Go.Proofs.YthfbpilfdfploaaGreat
namespace Go.Proofs.YthfbpilfdfploaaGreat
open Go.RowKit

theorem own_low {w : World} {base base' : Nat} {e : TypeId} {size n : Nat} {v : Value} {xs : List Value} (h : w.ownsRow base e size v n xs) (hb : base' ≤ base) : w.ownsRow base' e size v n xs := by
  obtain ⟨h1, ⟨rfl, h2⟩ | ⟨g, cap, cur, rfl, h3, h4⟩⟩ := h
  · exact ⟨h1, Or.inl ⟨rfl, h2⟩⟩
  · exact ⟨h1, Or.inr ⟨g, cap, cur, rfl, Nat.le_trans hb h3, h4⟩⟩
theorem Gr.grown {a b c : World} (h : Gr a b) {r : Option Nat} (k : b.grownBy c r) (hr : ∀ g, r = some g → a.heap.size ≤ g) : Gr a c := ⟨h.below.grown k h.below.size hr⟩
end Go.Proofs.YthfbpilfdfploaaGreat
namespace Go.Proofs.YthfbpilfdfploaaGreat
open Go.RowKit

/- a row of structs in memory, cell by cell, its address whatever where there is none -/
def RowAt {α : Type} (f : α → List Value) (w : World) (ad : Option Addr) (L : List α) : Prop :=
  ∀ j u, (L.flatMap f)[j]? = some u → ∃ b off, ad = some ⟨b, off, none⟩ ∧ b < w.heap.size ∧ w.cell? ⟨b, off + j, none⟩ = some u
theorem flat_len {α : Type} {f : α → List Value} {c : Nat} (hc : ∀ x, (f x).length = c) (L : List α) : (L.flatMap f).length = L.length * c := by
  induction L with
  | nil => simp
  | cons x t ih => rw [List.flatMap_cons, List.length_append, ih, hc, List.length_cons, Nat.add_mul]; omega
theorem flat_get {α : Type} {f : α → List Value} {c : Nat} (hc : ∀ x, (f x).length = c) (L : List α) : ∀ j (h : j < L.length) i, i < c → (L.flatMap f)[j * c + i]? = (f L[j])[i]? := by
  induction L with
  | nil => intro j h; simp at h
  | cons x t ih =>
    intro j h i hi
    rw [List.flatMap_cons]
    cases j with
    | zero => rw [Nat.zero_mul, Nat.zero_add, List.getElem?_append_left (by rw [hc]; exact hi)]; rfl
    | succ j =>
      rw [Nat.add_mul, Nat.one_mul, List.getElem?_append_right (by rw [hc]; omega), hc, show j * c + c + i - c = j * c + i by omega, ih j (by simpa using h) i hi]; rfl
theorem RowAt.gr {α : Type} {f : α → List Value} {w w' : World} {ad : Option Addr} {L : List α} (h : RowAt f w ad L) (g : Gr w w') : RowAt f w' ad L := by
  intro j u hu
  obtain ⟨b, off, e, hb, h1⟩ := h j u hu
  exact ⟨b, off, e, Nat.lt_of_lt_of_le hb g.size, g.keep h1⟩
theorem RowAt.alloc {α : Type} {f : α → List Value} {w : World} {ad : Option Addr} {L : List α} (h : RowAt f w ad L) {o : Obj} : RowAt f (w.alloc o) ad L := h.gr (Gr.refl _).alloc
theorem RowAt.drew {α : Type} {f : α → List Value} {w : World} {ad : Option Addr} {L : List α} (h : RowAt f w ad L) : RowAt f w.drew ad L := h.gr (Gr.refl _).drew
theorem RowAt.nil {α : Type} {f : α → List Value} {w : World} {ad : Option Addr} : RowAt f w ad [] := fun j u h => by simp at h
theorem RowAt.setFar {α : Type} {f : α → List Value} {w : World} {ad : Option Addr} {L : List α} (h : RowAt f w ad L) (p : Addr) (v : Value) (hp : ∀ a, ad = some a → p.block ≠ a.block) : RowAt f (w.setCell p v) ad L := by
  intro j u hu
  obtain ⟨b, off, e, hb, h1⟩ := h j u hu
  exact ⟨b, off, e, by simpa using hb, by rw [World.cell?_setCell_far _ _ _ _ (by simpa using hp _ e)]; exact h1⟩
theorem RowAt.news {α : Type} {f : α → List Value} {w : World} {a : Addr} {L : List α} (h : RowAt f w (some a) L) : ∀ j u, (L.flatMap f)[j]? = some u → w.cell? (a.add j) = some u := by
  intro j u hu
  obtain ⟨b, off, e, _, h1⟩ := h j u hu
  cases e
  rw [Addr.add_lit]; exact h1
theorem RowAt.none {α : Type} {f : α → List Value} {c : Nat} (hc : ∀ x, (f x).length = c) (h0 : 0 < c) {w : World} {L : List α} (h : RowAt f w none L) : L = [] := by
  cases L with
  | nil => rfl
  | cons x t =>
    have hl := flat_len hc (x :: t)
    have : 0 < ((x :: t).flatMap f).length := by rw [hl, List.length_cons]; exact Nat.mul_pos (by omega) h0
    obtain ⟨b, off, e, _⟩ := h 0 _ (List.getElem?_eq_getElem this)
    cases e
/- a row that the call owns -/
theorem own_row {α : Type} {f : α → List Value} {c : Nat} {base : Nat} {t : TypeId} {v : Value} {L : List α} {w : World} (h : w.ownsRow base t c v L.length (L.flatMap f)) :
    ∃ ad cap, v = .slice ad L.length cap ∧ L.length ≤ cap ∧ cap ≤ 9223372036854775807 ∧ RowAt f w ad L ∧ (∀ a, ad = some a → base ≤ a.block) ∧ (ad = none → cap = 0) := by
  have hcell := fun g (hg : v.ownBlock = some g) => h.cells hg
  have hlt := h.lt
  obtain ⟨_, ⟨rfl, h0⟩ | ⟨g, cap, cur, rfl, hx⟩⟩ := h
  · have : L = [] := List.length_eq_zero_iff.1 h0
    subst this
    exact ⟨none, 0, rfl, by simp, by omega, RowAt.nil, (fun a e => by cases e), fun _ => rfl⟩
  · have hm : cap ≤ 9223372036854775807 := by have := hx.2.2.2.1; unfold maxLen at this; omega
    refine ⟨some ⟨g, 0, none⟩, cap, rfl, hx.2.2.1, hm, ?_, (fun a e => by cases e; exact (hlt g rfl).1), fun e => by cases e⟩
    intro j u hu
    have c1 := hcell g rfl _ _ hu
    rw [Addr.add_lit] at c1
    exact ⟨g, 0, rfl, (hlt g rfl).2, c1⟩

end Go.Proofs.YthfbpilfdfploaaGreat
namespace Go.Proofs.YthfbpilfdfploaaGreat
open Go.RowKit

/- nothing has turned but one block -/
structure GB (b : Nat) (w w' : World) : Prop where
  g : w.grownBy w' (some b)
theorem GB.ofGr {b : Nat} {w w' : World} (g : Gr w w') : GB b w w' := ⟨⟨g.below.os, g.below.tape, g.below.output, g.size, fun k hk _ => g.below.block k hk⟩⟩
theorem GB.refl (b : Nat) (w : World) : GB b w w := GB.ofGr (Gr.refl _)
theorem GB.size {b : Nat} {w w' : World} (h : GB b w w') : w.heap.size ≤ w'.heap.size := h.g.size
theorem GB.trans {b : Nat} {u v w : World} (h : GB b u v) (k : GB b v w) : GB b u w := by
  have hs := h.size
  refine ⟨⟨?_, ?_, ?_, Nat.le_trans h.size k.size, ?_⟩⟩
  · exact k.g.os.trans h.g.os
  · exact k.g.tape.trans h.g.tape
  · exact k.g.output.trans h.g.output
  · intro i hi hne
    exact (k.g.block i (by omega) hne).trans (h.g.block i hi hne)
theorem GB.alloc {b : Nat} {a w : World} (h : GB b a w) {o : Obj} : GB b a (w.alloc o) := h.trans (GB.ofGr (Gr.refl _).alloc)
theorem GB.drew {b : Nat} {a w : World} (h : GB b a w) : GB b a w.drew := h.trans (GB.ofGr (Gr.refl _).drew)
theorem GB.gr {b : Nat} {a w w' : World} (h : GB b a w) (g : Gr w w') : GB b a w' := h.trans (GB.ofGr g)
theorem GB.setNew {b : Nat} {a w : World} (h : GB b a w) (p : Addr) (v : Value) (hp : a.heap.size ≤ p.block ∨ p.block = b) : GB b a (w.setCell p v) :=
  ⟨⟨h.g.os, h.g.tape, h.g.output, by simpa [World.setCell] using h.size, fun k hk hne => (Below.heap_setCell _ _ _ _ (fun e => by
    rcases hp with hp | hp
    · omega
    · exact hne (by rw [e, hp]))).trans (h.g.block k hk hne)⟩⟩
theorem GB.keep {b : Nat} {w w' : World} (h : GB b w w') {g o : Nat} {v : Value} (hg : g < w.heap.size) (hne : g ≠ b) (hc : w.cell? ⟨g, o, none⟩ = some v) : w'.cell? ⟨g, o, none⟩ = some v := by
  rw [← hc]; exact World.cell?_of_block (w := w) (h.g.block g hg (by simp; omega))
theorem GB.keepF {b : Nat} {w w' : World} (h : GB b w w') {g o : Nat} {v : Bool} (hg : g < w.heap.size) (hne : g ≠ b) (hc : w.frozen? ⟨g, o, none⟩ = v) : w'.frozen? ⟨g, o, none⟩ = v := by
  rw [← hc]; exact World.frozen?_of_block (w := w) (h.g.block g hg (by simp; omega))
theorem Gr.gb {b : Nat} {a w w' : World} (g : Gr a w) (h : GB b w w') (hb : a.heap.size ≤ b) : Gr a w' := ⟨g.below.grown h.g g.size (fun k e => by cases e; exact hb)⟩
end Go.Proofs.YthfbpilfdfploaaGreat
namespace Go.Proofs.YthfbpilfdfploaaGreat
open Go.RowKit

/- a block's first cells, which may be written -/
structure Cs (w : World) (g : Nat) (vs : List Value) : Prop where
  at_ : ∀ i v, vs[i]? = some v → w.cell? ⟨g, i, none⟩ = some v
  fz : ∀ i, i < vs.length → w.frozen? ⟨g, i, none⟩ = false
  lt : g < w.heap.size
theorem Cs.gr {w w' : World} {g : Nat} {vs : List Value} (h : Cs w g vs) (k : Gr w w') : Cs w' g vs :=
  ⟨fun i v e => k.keep (h.at_ i v e), fun i hi => k.keepF h.lt (h.fz i hi), Nat.lt_of_lt_of_le h.lt k.size⟩
theorem Cs.alloc {w : World} {g : Nat} {vs : List Value} (h : Cs w g vs) {o : Obj} : Cs (w.alloc o) g vs := h.gr (Gr.refl _).alloc
theorem Cs.drew {w : World} {g : Nat} {vs : List Value} (h : Cs w g vs) : Cs w.drew g vs := h.gr (Gr.refl _).drew
theorem Cs.new (w : World) (vs : List Value) (t : TypeId) (g : Nat) (hg : g = w.heap.size) : Cs (w.alloc (.cells vs.toArray t)) g vs := by
  refine ⟨fun i v e => ?_, fun i hi => ?_, by subst hg; simp⟩
  · rw [World.cell?_alloc_at _ _ _ _ hg]; simpa using e
  · exact World.frozen?_alloc_at _ _ _ _ hg
theorem Cs.far {w : World} {g : Nat} {vs : List Value} (h : Cs w g vs) (p : Addr) (v : Value) (hp : p.block ≠ g) : Cs (w.setCell p v) g vs :=
  ⟨fun i u e => (World.cell?_setCell_far _ _ _ _ (by simpa using hp)).trans (h.at_ i u e), fun i hi => (World.frozen?_setCell _ _ _ _).trans (h.fz i hi), by simpa using h.lt⟩
theorem Cs.set {w : World} {g : Nat} {vs : List Value} (h : Cs w g vs) (k : Nat) (hk : k < vs.length) (v : Value) : Cs (w.setCell ⟨g, k, none⟩ v) g (vs.set k v) := by
  have hl := h.lt
  have hf := h.fz k hk
  have hc := h.at_ k vs[k] (by simp [hk])
  refine ⟨fun i u e => ?_, fun i hi => (World.frozen?_setCell _ _ _ _).trans (h.fz i (by simpa using hi)), by simpa using h.lt⟩
  by_cases hik : i = k
  · subst hik
    rw [List.getElem?_set_self hk] at e
    cases e
    simp [go_sem, *]
  · rw [List.getElem?_set_ne (fun e => hik e.symm)] at e
    have := h.at_ i u e
    have hne : ¬ k = i := fun e => hik e.symm
    simp [go_sem, *]
theorem GB.cs {b : Nat} {w w' : World} {g : Nat} {vs : List Value} (h : GB b w w') (x : Cs w g vs) (hne : g ≠ b) : Cs w' g vs :=
  ⟨fun i v e => h.keep x.lt hne (x.at_ i v e), fun i hi => h.keepF x.lt hne (x.fz i hi), Nat.lt_of_lt_of_le x.lt h.size⟩
/- a frame is laid into a block -/
end Go.Proofs.YthfbpilfdfploaaGreat
namespace Go.Proofs.YthfbpilfdfploaaGreat.Csh

def up (a : Int) : Int := if a < 0 then 18446744073709551615 else 0
theorem up_rng (a : Int) : 0 ≤ up a ∧ up a < 18446744073709551616 := by unfold up; split <;> omega

/- the document's product -/
/- the document's sum, in halves of 32 bits -/
end Go.Proofs.YthfbpilfdfploaaGreat.Csh
namespace Go.Proofs.YthfbpilfdfploaaGreat.Pot

def mayB (h i o : Int) : Bool := decide (0 ≤ i) && decide (i ≤ h) && decide (0 ≤ o) && decide (h + o ≤ 1000000000000000)
theorem may_iff (h i o : Int) : mayB h i o = true ↔ 0 ≤ i ∧ i ≤ h ∧ 0 ≤ o ∧ h + o ≤ 1000000000000000 := by
  unfold mayB; simp only [Bool.and_eq_true, decide_eq_true_eq]; omega
/- what is left where an amount goes: the most that may go -/
end Go.Proofs.YthfbpilfdfploaaGreat.Pot
namespace Go.Proofs.YthfbpilfdfploaaGreat.Act

def letB (b : UInt8) : Bool := decide ((97 : Int) ≤ (b.toNat : Int)) && decide ((b.toNat : Int) ≤ 122)
def digB (b : UInt8) : Bool := decide ((48 : Int) ≤ (b.toNat : Int)) && decide ((b.toNat : Int) ≤ 57)
def sgnB (b : UInt8) : Bool := letB b || digB b
def headB : List UInt8 → Bool
  | [] => false
  | b :: _ => letB b
def nameB (s : ByteArray) : Bool := decide (s.size ≤ 16) && headB s.data.toList && s.data.toList.all sgnB

theorem head_get (s : ByteArray) (h : 0 < s.size) : headB s.data.toList = letB (s[0]'h) := by
  have hl : s.data.toList.length = s.size := by simp
  have h0 : s.data.toList[0]'(by omega) = s[0]'h := rfl
  cases hc : s.data.toList with
  | nil => rw [hc] at hl; simp at hl; omega
  | cons b t => simp only [hc] at h0; rw [← h0]; rfl
theorem head_none (s : ByteArray) (h : s.size = 0) : headB s.data.toList = false := by
  have hl : s.data.toList.length = s.size := by simp
  cases hc : s.data.toList with
  | nil => rfl
  | cons b t => rw [hc] at hl; simp at hl; omega
theorem name_empty (s : ByteArray) (h : s.size = 0) : nameB s = false := by unfold nameB; rw [head_none s h]; simp
theorem name_long (s : ByteArray) (h : 16 < s.size) : nameB s = false := by unfold nameB; rw [decide_eq_false (by omega)]; rfl
theorem name_head (s : ByteArray) (h : 0 < s.size) (hb : letB (s[0]'h) = false) : nameB s = false := by unfold nameB; rw [head_get s h, hb]; simp
theorem name_sign (s : ByteArray) (k : Nat) (h : k < s.size) (hb : sgnB (s[k]'h) = false) : nameB s = false := by
  have hl : s.data.toList.length = s.size := by simp
  have hk : s.data.toList[k]'(by omega) = s[k]'h := rfl
  have : s.data.toList.all sgnB = false := by
    rw [List.all_eq_false]
    exact ⟨_, List.getElem_mem (by omega : k < s.data.toList.length), by rw [hk, hb]; simp⟩
  unfold nameB; rw [this]; simp
theorem name_yes (s : ByteArray) (h : 0 < s.size) (h16 : s.size ≤ 16) (hb : letB (s[0]'h) = true) (ha : ∀ j (hj : j < s.size), sgnB (s[j]'hj) = true) : nameB s = true := by
  have hl : s.data.toList.length = s.size := by simp
  have : s.data.toList.all sgnB = true := by
    rw [List.all_eq_true]
    intro b hm
    obtain ⟨j, hj, rfl⟩ := List.getElem_of_mem hm
    exact ha j (by omega)
  unfold nameB; rw [this, head_get s h, hb, decide_eq_true h16]; rfl
theorem sgn_let {b : UInt8} (h : letB b = true) : sgnB b = true := by unfold sgnB; rw [h]; rfl
theorem sgn_dig {b : UInt8} (h : digB b = true) : sgnB b = true := by unfold sgnB; rw [h]; simp
theorem sgn_no {b : UInt8} (h : letB b = false) (h2 : digB b = false) : sgnB b = false := by unfold sgnB; rw [h, h2]; rfl
theorem name_pos {s : ByteArray} (h : nameB s = true) : 0 < s.size ∧ s.size ≤ 16 := by
  refine ⟨?_, ?_⟩
  · by_cases hz : s.size = 0
    · rw [name_empty s hz] at h; cases h
    · omega
  · by_cases hz : 16 < s.size
    · rw [name_long s hz] at h; cases h
    · omega

/- an activity, an account -/
def accB (s : ByteArray) (a b c x y z : Int) : Bool := nameB s && Pot.mayB a b c && Pot.mayB x y z
def mayE (s : ByteArray) (a b c x y z : Int) : Int := if accB s a b c x y z = true then 0 else 2
/- what keeps an activity from an account, whatever its pots have -/
/- the ways of an activity: of Free, of Kept -/
def wK (k : Int) : Int := if k = 3 then 1 else if k = 4 then -1 else 0
/- what one of pot's calls answers -/
structure Ch where
  h : Bool → Int → Int → Int → Int → Int
  i : Bool → Int → Int → Int → Int → Int
  o : Bool → Int → Int → Int → Int → Int
  e : Bool → Int → Int → Int → Int → Int
/- the way of an activity with each pot, as a call of pot's takes it -/
def oK (k : Int) : Bool := decide (wK k < 0)
def hK (C : Ch) (k x y z n : Int) : Int := if wK k = 0 then x else C.h (oK k) x y z n
/- the error of a call with an account, and the account -/
end Go.Proofs.YthfbpilfdfploaaGreat.Act
namespace Go.Proofs.YthfbpilfdfploaaGreat.Idn

theorem pathB_new (l : List Int) : ∀ seen, pathB seen l = true → ∀ o ∈ l, o ∉ seen := by
  induction l with
  | nil => intro _ _ o ho; simp at ho
  | cons a l ih =>
    intro seen h o ho
    rw [pathB] at h
    simp only [Bool.and_eq_true, Bool.not_eq_true', List.contains_eq_mem, decide_eq_false_iff_not] at h
    rcases List.mem_cons.1 ho with rfl | ho
    · exact h.1.2
    · exact fun x => ih _ h.2 o ho (List.mem_append_left _ x)
theorem pathB_snoc (l : List Int) (o : Int) : ∀ seen, pathB seen (l ++ [o]) = true → pathB seen l = true ∧ o ∉ seen ∧ o ∉ l := by
  induction l with
  | nil =>
    intro seen h
    exact ⟨rfl, pathB_new _ _ h o (by simp), by simp⟩
  | cons a l ih =>
    intro seen h
    rw [List.cons_append, pathB] at h
    simp only [Bool.and_eq_true] at h
    obtain ⟨h1, h2, h3⟩ := ih _ h.2
    refine ⟨by rw [pathB, h1]; simp only [Bool.and_true, Bool.and_eq_true]; exact h.1, fun x => h2 (List.mem_append_left _ x), ?_⟩
    intro x
    rcases List.mem_cons.1 x with rfl | x
    · exact h2 (by simp)
    · exact h3 x
theorem path_snoc (r s o : Int) (L : List (Int × Int)) : path r (L ++ [(s, o)]) = path r L ++ [o] := by simp [path]
theorem may_snoc {r n s o : Int} {L : List (Int × Int)} (h : mayB r n (L ++ [(s, o)]) = true) : mayB r n L = true ∧ o ∉ path r L := by
  unfold mayB at h ⊢
  simp only [Bool.and_eq_true, decide_eq_true_eq, List.length_append, List.length_singleton] at h ⊢
  rw [path_snoc] at h
  obtain ⟨h1, _, h3⟩ := pathB_snoc _ _ _ h.2
  have h4 : stepsB L = true := by
    have := h.1.2
    unfold stepsB at this ⊢
    rw [List.all_append] at this
    simp only [Bool.and_eq_true] at this
    exact this.1
  exact ⟨⟨⟨⟨⟨h.1.1.1.1, h.1.1.1.2⟩, by omega⟩, h4⟩, h1⟩, h3⟩
end Go.Proofs.YthfbpilfdfploaaGreat.Idn
namespace Go.Proofs.YthfbpilfdfploaaGreat

/- a note: kind, the id's root, number and hops, definition, reason -/
structure Nt where
  k : Int
  r : Int
  n : Int
  L : List (Int × Int)
  d : ByteArray
  y : Int
/- a frame: from, to, epoch, number, epoch and number of the answer, note -/
structure Fm where
  f : Int
  t : Int
  e : Int
  s : Int
  a : Int
  c : Int
  n : Nt
namespace Nt
def zeroN : Nt := ⟨0, 0, 0, [], ⟨#[]⟩, 0⟩
def inB (n l h : Int) : Bool := decide (l ≤ n) && decide (n ≤ h)
def chB (x : Nt) : Bool := Idn.mayB x.r x.n x.L && decide (0 < x.L.length)
def dfB (x : Nt) : Bool := if x.k = 1 then Act.nameB x.d else decide (x.d = ⟨#[]⟩)
def wyB (x : Nt) : Bool := if x.k = 6 then inB x.y 1 9 else decide (x.y = 0)
def ntB (x : Nt) : Bool := inB x.k 1 7 && chB x && dfB x && wyB x
def ckE (x : Nt) : Int := if ntB x = true then 0 else 130
def upO (x : Nt) : Int := (Idn.path x.r x.L.dropLast).getLastD (-1)
def dnO (x : Nt) : Int := (Idn.path x.r x.L).getLastD (-1)
def ends1 (x : Nt) : Int := if ntB x = true then (if x.k ≤ 4 then upO x else dnO x) else -1
def ends2 (x : Nt) : Int := if ntB x = true then (if x.k ≤ 4 then dnO x else upO x) else -1
def emB (x : Nt) : Bool := decide (x.k = 0) && decide (x.r = 0) && decide (x.n = 0) && decide (x.L.length = 0) && decide (x.d = ⟨#[]⟩) && decide (x.y = 0)
def cnB (f : Fm) : Bool := inB f.e 1 1000000000 && inB f.s 0 1000000000 && inB f.a 0 1000000000 && inB f.c 0 1000000000
def fnB (f : Fm) : Bool := if f.s = 0 then emB f.n else ntB f.n && decide (ends1 f.n = f.f) && decide (ends2 f.n = f.t)
def frB (f : Fm) : Bool := inB f.f 0 15 && inB f.t 0 15 && decide (f.f ≠ f.t) && cnB f && fnB f
def frE (f : Fm) : Int := if frB f = true then 0 else 130

theorem inB_iff {n l h : Int} : inB n l h = true ↔ l ≤ n ∧ n ≤ h := by unfold inB; simp

theorem may_note {x : Nt} (h : ntB x = true) : (1 ≤ x.k ∧ x.k ≤ 7) ∧ Idn.mayB x.r x.n x.L = true ∧ 0 < x.L.length ∧ dfB x = true ∧ wyB x = true := by
  unfold ntB chB at h
  simp only [Bool.and_eq_true, decide_eq_true_eq, inB_iff] at h
  exact ⟨h.1.1.1, h.1.1.2.1, h.1.1.2.2, h.1.2, h.2⟩
theorem may_def {x : Nt} (h : dfB x = true) : x.d.size ≤ 16 := by
  unfold dfB at h
  split at h
  · exact (Act.name_pos h).2
  · have := of_decide_eq_true h
    rw [this]; decide
theorem may_frame {f : Fm} (h : frB f = true) : (0 ≤ f.f ∧ f.f ≤ 15) ∧ (0 ≤ f.t ∧ f.t ≤ 15) ∧ f.f ≠ f.t ∧ (1 ≤ f.e ∧ f.e ≤ 1000000000) ∧ (0 ≤ f.s ∧ f.s ≤ 1000000000) ∧ (0 ≤ f.a ∧ f.a ≤ 1000000000) ∧ (0 ≤ f.c ∧ f.c ≤ 1000000000) ∧ fnB f = true := by
  unfold frB cnB at h
  simp only [Bool.and_eq_true, decide_eq_true_eq, inB_iff] at h
  exact ⟨h.1.1.1.1, h.1.1.1.2, h.1.1.2, h.1.2.1.1.1, h.1.2.1.1.2, h.1.2.1.2, h.1.2.2, h.2⟩
theorem em_zero {x : Nt} (h : emB x = true) : x = zeroN := by
  unfold emB at h
  simp only [Bool.and_eq_true, decide_eq_true_eq] at h
  obtain ⟨k, r, n, L, d, y⟩ := x
  simp only at h
  obtain ⟨⟨⟨⟨⟨rfl, rfl⟩, rfl⟩, hl⟩, rfl⟩, rfl⟩ := h
  rw [List.length_eq_zero_iff.1 hl]; rfl
theorem fn_note {f : Fm} (h : fnB f = true) (hs : ¬ f.s = 0) : ntB f.n = true ∧ ends1 f.n = f.f ∧ ends2 f.n = f.t := by
  unfold fnB at h
  rw [if_neg hs] at h
  simp only [Bool.and_eq_true, decide_eq_true_eq] at h
  exact ⟨h.1.1, h.1.2, h.2⟩
end Nt
end Go.Proofs.YthfbpilfdfploaaGreat
namespace Go.Proofs.YthfbpilfdfploaaGreat
open Go.RowKit

set_option maxHeartbeats 400000 in
theorem sclone_any (s : ByteArray) (w : World) (hs : s.size ≤ 140737488355328) : Calls Tryz.prog 83 #[.string s] w fun e w' => e = .returned (.string s) ∧ Gr w w' := by
  have HC : Hid (∀ w : World, Calls Tryz.prog 106 #[.string s] w fun e w' => e = .returned (.string s) ∧ Below w.heap.size w w') := fun w => Tryz.stringslite_Clone s w (by omega)
  go_enter Tryz.func83, Tryz.ntmps83
  go_wp2_with fail
  refine (HC.out _).mono ?_
  rintro e w1 ⟨rfl, hb⟩
  go_wp2
  go_ret
  exact ⟨rfl, ⟨hb⟩⟩

end Go.Proofs.YthfbpilfdfploaaGreat
