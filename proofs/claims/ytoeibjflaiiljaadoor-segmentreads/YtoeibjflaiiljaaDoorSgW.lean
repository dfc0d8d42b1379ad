
/- What the statements of layer 16 call: Same, Numbers, small, awake. -/
import Derived.Test.YtoeibjflaiiljaaDoorSgF
import Derived.Test.YtoeibjflaiiljaaDoorSameA
namespace Go.Proofs.YtoeibjflaiiljaaDoor
open Go.RowKit
open Dk (Fl zf)

set_option maxHeartbeats 1000000 in
set_option maxRecDepth 100000 in
theorem same16_any (L : List ByteArray) (a1 a2 : Option Addr) (c1 c2 : Nat) (w : World) (hn : L.length ≤ 9223372036854775807) (h1 : StrsAt w a1 L) (h2 : StrsAt w a2 L) :
    Calls Tryd.prog 16 #[.slice a1 L.length c1, .slice a2 L.length c2] w fun e w' => e = .returned (.bool true) ∧ Gr w w' := by
  have HS := Lib.hid (same_any L a1 a2 c1 c2 w hn h1 h2)
  clear h1 h2
  go_enter Tryd.func16, Tryd.ntmps16
  go_wp2_with fail
  refine HS.out.mono ?_
  rintro e w1 ⟨rfl, hg1⟩
  go_wp2
  go_ret
  exact ⟨rfl, hg1⟩

set_option maxHeartbeats 1000000 in
set_option maxRecDepth 100000 in
theorem nums16_any (L : List Int) (a1 a2 : Option Addr) (c1 c2 : Nat) (w : World) (hn : L.length ≤ 9223372036854775807) (h1 : IntsAt w a1 L) (h2 : IntsAt w a2 L) :
    Calls Tryd.prog 17 #[.slice a1 L.length c1, .slice a2 L.length c2] w fun e w' => e = .returned (.bool true) ∧ Gr w w' := by
  have H1 := Lib.hid h1
  have H2 := Lib.hid h2
  clear h1 h2
  go_enter Tryd.func17, Tryd.ntmps17
  go_wp2
  go_loopw [5] (fun i wr => ∃ k : Nat, k ≤ L.length ∧ i = .int .i64 k ∧ Gr w wr) (fun i _ => L.length - (intOf i).toNat)
  case atStart => exact ⟨0, by omega, rfl, Gr.refl _⟩
  case round =>
    obtain ⟨k, hk, rfl, hg⟩ := hrel
    by_cases hlt : k < L.length
    · obtain ⟨b, off, rfl, hbl, hc⟩ := H1.out k hlt
      obtain ⟨b2, off2, rfl, hbl2, hc2⟩ := H2.out k hlt
      have hc' : wr.cell? ⟨b, off + k, none⟩ = some (.int .i64 L[k]) := hg.keep hc
      have hc2' : wr.cell? ⟨b2, off2 + k, none⟩ = some (.int .i64 L[k]) := hg.keep hc2
      have hb1 : (0 : Int) ≤ (k : Int) := by omega
      have hb2 : (k : Int) < (L.length : Int) := by omega
      clear hc hc2
      generalize L[k] = x at *
      go_wp2_with fail
      go_quiet (fail)
      go_wp2
      go_roundw
      case rel => exact ⟨k + 1, by omega, by go_num, hg.dn _⟩
      case measure => simp [intOf]; omega
    · go_wp2
      go_ret
      exact ⟨rfl, hg⟩

/- few bytes -/
def sm : Nat → List Fl → Bool
  | _, [] => true
  | n, f :: r => if 60000 < n + (20 + min f.d.size 100000) then false else sm (n + (20 + min f.d.size 100000)) r
theorem sm_all : ∀ (L : List Fl) (n : Nat), n ≤ 60000 → sm n L = true → n + 20 * L.length ≤ 60000 ∧ ∀ f ∈ L, f.d.size ≤ 60000
  | [], n, hn, _ => ⟨by simpa using hn, by simp⟩
  | f :: r, n, hn, h => by
    rw [sm] at h
    split at h
    · cases h
    · rename_i hb
      obtain ⟨h1, h2⟩ := sm_all r _ (by omega) h
      refine ⟨by rw [List.length_cons]; omega, fun x hx => ?_⟩
      rcases List.mem_cons.1 hx with rfl | hx
      · omega
      · exact h2 x hx
set_option maxHeartbeats 400000 in
set_option maxRecDepth 100000 in
theorem small16_any (L : List Fl) (ad : Option Addr) (cap : Nat) (w : World) (hL : RowAt flf w ad L) (hn : L.length ≤ 9223372036854775807) (hsz : ∀ f ∈ L, f.d.size ≤ 9223372036854775807) :
    Calls Tryd.prog 13 #[.slice ad L.length cap] w fun e w' => e = .returned (.bool (sm 0 L)) ∧ w' = w := by
  have HL := Lib.hid hL
  have HZ := Lib.hid hsz
  clear hL hsz
  go_enter Tryd.func13, Tryd.ntmps13
  go_wp2
  go_loop [3, 4] (fun n i => ∃ k m : Nat, k ≤ L.length ∧ m ≤ 60000 ∧ i = .int .i64 k ∧ n = .int .i64 m ∧ sm 0 L = sm m (L.drop k)) (fun _ i => L.length - (intOf i).toNat)
  case atStart => exact ⟨0, 0, by omega, by omega, rfl, rfl, rfl⟩
  case round =>
    obtain ⟨k, m, hk, hm, rfl, rfl, hq⟩ := hrel
    have HQ := Lib.hid hq
    clear hq
    by_cases hlt : k < L.length
    · obtain ⟨b, off, rfl, hbl, _, hc, _⟩ := fl_at HL.out k hlt
      have hz := HZ.out L[k] (List.getElem_mem hlt)
      have e := List.drop_eq_getElem_cons hlt
      have HQ2 : Hid (sm 0 L = if 60000 < m + (20 + min (L[k]).d.size 100000) then false else sm (m + (20 + min (L[k]).d.size 100000)) (L.drop (k + 1))) := by
        show _ = _
        rw [HQ.out, e, sm]
      clear e
      generalize L[k].d = d at *
      have hki : (k : Int) < (L.length : Int) := by omega
      by_cases hbig : 60000 < m + (20 + min d.size 100000)
      · have HR : Hid (sm 0 L = false) := by show _ = _; rw [HQ2.out, if_pos hbig]
        have hbi : (60000 : Int) < (m : Int) + (20 + min (d.size : Int) 100000) := by omega
        go_wp2
        go_ret
        exact ⟨by rw [HR.out]; rfl, rfl⟩
      · have HR : Hid (sm 0 L = sm (m + (20 + min d.size 100000)) (L.drop (k + 1))) := by show _ = _; rw [HQ2.out, if_neg hbig]
        have hbi : ¬ (60000 : Int) < (m : Int) + (20 + min (d.size : Int) 100000) := by omega
        go_wp2
        go_round
        case rel => exact ⟨k + 1, m + (20 + min d.size 100000), by omega, by omega, by go_num, by go_num, HR.out⟩
        case measure => simp [intOf]; omega
    · have HR : Hid (sm 0 L = true) := by
        show _ = _
        rw [HQ.out, List.drop_eq_nil_of_le (by omega)]; rfl
      go_wp2
      go_ret
      exact ⟨by rw [HR.out]; rfl, rfl⟩

/- files in a new block -/
theorem row_one {w : World} {b : Nat} {f : Fl} (h0 : w.cell? ⟨b, 0, none⟩ = some (.int .i64 f.n)) (h1 : w.cell? ⟨b, 1, none⟩ = some (.string f.d)) (h2 : w.cell? ⟨b, 2, none⟩ = some (.int .i64 f.y)) : RowAt flf w (some ⟨b, 0, none⟩) [f] := by
  have hb := World.block_lt_of_cell? w _ h0
  intro j u hu
  match j, hu with
  | 0, hu => exact ⟨b, 0, rfl, hb, by simp [flf] at hu; subst hu; exact h0⟩
  | 1, hu => exact ⟨b, 0, rfl, hb, by simp [flf] at hu; subst hu; exact h1⟩
  | 2, hu => exact ⟨b, 0, rfl, hb, by simp [flf] at hu; subst hu; exact h2⟩
theorem row_two {w : World} {b : Nat} {f g : Fl} (h0 : w.cell? ⟨b, 0, none⟩ = some (.int .i64 f.n)) (h1 : w.cell? ⟨b, 1, none⟩ = some (.string f.d)) (h2 : w.cell? ⟨b, 2, none⟩ = some (.int .i64 f.y)) (h3 : w.cell? ⟨b, 3, none⟩ = some (.int .i64 g.n)) (h4 : w.cell? ⟨b, 4, none⟩ = some (.string g.d)) (h5 : w.cell? ⟨b, 5, none⟩ = some (.int .i64 g.y)) : RowAt flf w (some ⟨b, 0, none⟩) [f, g] := by
  have hb := World.block_lt_of_cell? w _ h0
  intro j u hu
  match j, hu with
  | 0, hu => exact ⟨b, 0, rfl, hb, by simp [flf] at hu; subst hu; exact h0⟩
  | 1, hu => exact ⟨b, 0, rfl, hb, by simp [flf] at hu; subst hu; exact h1⟩
  | 2, hu => exact ⟨b, 0, rfl, hb, by simp [flf] at hu; subst hu; exact h2⟩
  | 3, hu => exact ⟨b, 0, rfl, hb, by simp [flf] at hu; subst hu; exact h3⟩
  | 4, hu => exact ⟨b, 0, rfl, hb, by simp [flf] at hu; subst hu; exact h4⟩
  | 5, hu => exact ⟨b, 0, rfl, hb, by simp [flf] at hu; subst hu; exact h5⟩
theorem strsAt3 {w : World} {b : Nat} {s t r : ByteArray} (h0 : w.cell? ⟨b, 0, none⟩ = some (.string s)) (h1 : w.cell? ⟨b, 1, none⟩ = some (.string t)) (h2 : w.cell? ⟨b, 2, none⟩ = some (.string r)) : StrsAt w (some ⟨b, 0, none⟩) [s, t, r] := by
  intro j hj
  match j, hj with
  | 0, _ => exact ⟨b, 0, rfl, World.block_lt_of_cell? w _ h0, h0⟩
  | 1, _ => exact ⟨b, 0, rfl, World.block_lt_of_cell? w _ h1, h1⟩
  | 2, _ => exact ⟨b, 0, rfl, World.block_lt_of_cell? w _ h2, h2⟩
theorem ints1 {w : World} {b : Nat} {x : Int} (h0 : w.cell? ⟨b, 0, none⟩ = some (.int .i64 x)) : IntsAt w (some ⟨b, 0, none⟩) [x] := by
  intro j hj
  match j, hj with
  | 0, _ => exact ⟨b, 0, rfl, World.block_lt_of_cell? w _ h0, h0⟩

/- the fixed answers -/
def aw1 : List UInt8 := (Sl.sealE 3 [111, 110, 101]).1
def aw2 : List UInt8 := (Sg.next [⟨#[116, 119, 111]⟩, ⟨#[]⟩]).1
def awF : List Fl := [⟨1, ⟨(aw1 ++ aw2).toArray⟩, 0⟩, ⟨2, ⟨#[231]⟩, 0⟩]
theorem aw1_eq : Sl.sealE 3 [111, 110, 101] = (aw1, 0) := by decide +kernel
theorem aw2_eq : Sg.next [⟨#[116, 119, 111]⟩, ⟨#[]⟩] = (aw2, 0) := by decide +kernel
theorem aw1_len : aw1.length = 14 := by decide +kernel
theorem aw2_len : aw2.length = 25 := by decide +kernel
theorem An.ext' {x y : Sg.An} (h0 : x.num = y.num) (h1 : x.good = y.good) (h2 : x.bodies = y.bodies) (h3 : x.drop = y.drop) (h4 : x.err = y.err) : x = y := by
  cases x; cases y; simp_all
theorem aw_look : Sg.look awF = ⟨1, 39, [[111, 110, 101], [116, 119, 111], []], [2], 0⟩ :=
  An.ext' (by decide +kernel) (by decide +kernel) (by decide +kernel) (by decide +kernel) (by decide +kernel)
theorem aw_none : Sg.look [⟨1, ⟨#[120]⟩, 0⟩] = Sg.bad 170 :=
  An.ext' (by decide +kernel) (by decide +kernel) (by decide +kernel) (by decide +kernel) (by decide +kernel)
set_option maxHeartbeats 4000000 in
set_option maxRecDepth 100000 in
theorem awake16_any (w : World) (hT : Tab w) : Calls Tryd.prog 8 #[] w fun e w' => e = .returned (.bool true) ∧ Gr w w' := by
  have HB : Hid (∀ w', Gr w w' → Calls Tryd.prog 9 #[.string ⟨#[111, 110, 101]⟩] w' fun e w2 => e = .returned (.tuple #[.string ⟨aw1.toArray⟩, .int .i64 0]) ∧ Gr w' w2) := by
    intro w' g
    have := begin_any ⟨#[111, 110, 101]⟩ w' (hT.gr g) (by decide)
    rw [show ((⟨#[111, 110, 101]⟩ : ByteArray).data.toList) = [111, 110, 101] from rfl, aw1_eq] at this
    exact this
  have HN : Hid (∀ (w' : World) (b : Nat), Gr w w' → w'.cell? ⟨b, 0, none⟩ = some (.string ⟨#[116, 119, 111]⟩) → w'.cell? ⟨b, 1, none⟩ = some (.string ⟨#[]⟩) → Calls Tryd.prog 11 #[.slice (some ⟨b, 0, none⟩) 2 2] w' fun e w2 => e = .returned (.tuple #[.string ⟨aw2.toArray⟩, .int .i64 0]) ∧ Gr w' w2) := by
    intro w' b g h0 h1
    have := next_any [⟨#[116, 119, 111]⟩, ⟨#[]⟩] (some ⟨b, 0, none⟩) 2 w' (hT.gr g) (strsAt2 h0 h1) (by simp) (by
      intro s hs
      simp at hs
      rcases hs with rfl | rfl <;> decide)
    rw [aw2_eq] at this
    exact this
  have HL : Hid (∀ (w' : World) (b : Nat), Gr w w' → RowAt flf w' (some ⟨b, 0, none⟩) awF → Calls Tryd.prog 14 #[.slice (some ⟨b, 0, none⟩) 2 2] w' fun e w2 => ∃ ab cb ad cd, e = .returned (.tuple #[.agg #[.int .i64 1, .int .i64 39, .slice ab 3 cb, .slice ad 1 cd], .int .i64 0]) ∧ StrsAt w2 ab [⟨#[111, 110, 101]⟩, ⟨#[116, 119, 111]⟩, ⟨#[]⟩] ∧ IntsAt w2 ad [2] ∧ Gr w' w2) := by
    intro w' b g hr
    have := look_any awF (some ⟨b, 0, none⟩) 2 w' (hT.gr g) ⟨hr, by simp [awF], by simp [awF], by
      intro f hf
      simp [awF] at hf
      rcases hf with rfl | rfl
      · refine ⟨by simp, by simp, ?_⟩
        have h1 := aw1_len
        have h2 := aw2_len
        simp [ByteArray.size]; omega
      · refine ⟨by simp, by simp, by decide⟩⟩
    rw [aw_look] at this
    refine this.mono ?_
    rintro e w2 ⟨ab, cb, ad, cd, rfl, h1, h2, h3⟩
    exact ⟨ab, cb, ad, cd, rfl, h1, h2, h3⟩
  have HX : Hid (∀ (w' : World) (b : Nat), Gr w w' → RowAt flf w' (some ⟨b, 0, none⟩) [⟨1, ⟨#[120]⟩, 0⟩] → Calls Tryd.prog 14 #[.slice (some ⟨b, 0, none⟩) 1 1] w' fun e w2 => ∃ ab cb ad cd, e = .returned (.tuple #[.agg #[.int .i64 0, .int .i64 0, .slice ab 0 cb, .slice ad 0 cd], .int .i64 170]) ∧ Gr w' w2) := by
    intro w' b g hr
    have := look_any [⟨1, ⟨#[120]⟩, 0⟩] (some ⟨b, 0, none⟩) 1 w' (hT.gr g) ⟨hr, by simp, by simp, by
      intro f hf
      simp at hf
      subst hf
      exact ⟨by simp, by simp, by decide⟩⟩
    rw [aw_none] at this
    refine this.mono ?_
    rintro e w2 ⟨ab, cb, ad, cd, rfl, h1, h2, h3⟩
    exact ⟨ab, cb, ad, cd, rfl, h3⟩
  have HSm : Hid (∀ (w' : World) (a : Option Addr) (c : Nat) (b : Nat), StrsAt w' a [⟨#[111, 110, 101]⟩, ⟨#[116, 119, 111]⟩, ⟨#[]⟩] → w'.cell? ⟨b, 0, none⟩ = some (.string ⟨#[111, 110, 101]⟩) → w'.cell? ⟨b, 1, none⟩ = some (.string ⟨#[116, 119, 111]⟩) → w'.cell? ⟨b, 2, none⟩ = some (.string ⟨#[]⟩) → Calls Tryd.prog 16 #[.slice a 3 c, .slice (some ⟨b, 0, none⟩) 3 3] w' fun e w2 => e = .returned (.bool true) ∧ Gr w' w2) := fun w' a c b h h0 h1 h2 => same16_any [⟨#[111, 110, 101]⟩, ⟨#[116, 119, 111]⟩, ⟨#[]⟩] a (some ⟨b, 0, none⟩) c 3 w' (by simp) h (strsAt3 h0 h1 h2)
  have HNm : Hid (∀ (w' : World) (a : Option Addr) (c : Nat) (b : Nat), IntsAt w' a [2] → w'.cell? ⟨b, 0, none⟩ = some (.int .i64 2) → Calls Tryd.prog 17 #[.slice a 1 c, .slice (some ⟨b, 0, none⟩) 1 1] w' fun e w2 => e = .returned (.bool true) ∧ Gr w' w2) := fun w' a c b h h0 => nums16_any [2] a (some ⟨b, 0, none⟩) c 1 w' (by simp) h (ints1 h0)
  have hs1 : (⟨aw1.toArray⟩ : ByteArray).size = 14 := by have := aw1_len; simpa [ByteArray.size] using this
  have hs2 : (⟨aw2.toArray⟩ : ByteArray).size = 25 := by have := aw2_len; simpa [ByteArray.size] using this
  have ha := add_lists aw1 aw2 (by rw [aw1_len, aw2_len]; decide)
  have HF : Hid (awF = [⟨1, ⟨(aw1 ++ aw2).toArray⟩, 0⟩, ⟨2, ⟨#[231]⟩, 0⟩]) := rfl
  clear hT
  generalize aw1 ++ aw2 = a12 at *
  generalize aw1 = a1 at *
  generalize aw2 = a2 at *
  go_enter Tryd.func8, Tryd.ntmps8
  go_wp2_with fail
  refine (HB.out _ (by repeat (first | exact Gr.refl _ | refine Gr.alloc ?_ | refine Gr.drew ?_ | refine Gr.trans ?_ (by assumption)))).mono ?_
  rintro e w1 ⟨rfl, hg1⟩
  go_wp2_with fail
  refine (HN.out _ _ (by repeat (first | exact Gr.refl _ | refine Gr.alloc ?_ | refine Gr.drew ?_ | refine Gr.trans ?_ (by assumption))) (by simp) (by simp)).mono ?_
  rintro e w2 ⟨rfl, hg2⟩
  go_wp2_with fail
  refine (HL.out _ _ (by repeat (first | exact Gr.refl _ | refine Gr.alloc ?_ | refine Gr.drew ?_ | refine Gr.trans ?_ (by assumption))) (by rw [HF.out]; exact row_two (by simp) (by simp) (by simp) (by simp) (by simp) (by simp))).mono ?_
  rintro e w3 ⟨ab, cb, ad, cd, rfl, hst, hia, hg3⟩
  go_wp2_with fail
  refine (HX.out _ _ (by repeat (first | exact Gr.refl _ | refine Gr.alloc ?_ | refine Gr.drew ?_ | refine Gr.trans ?_ (by assumption))) (row_one (by simp) (by simp) (by simp))).mono ?_
  rintro e w4 ⟨ab2, cb2, ad2, cd2, rfl, hg4⟩
  have B4 := (Bx4.new w3 (.int .i64 1) (.int .i64 39) (.slice ab 3 cb) (.slice ad 1 cd) 37 _ rfl).gr ((Gr.refl _).alloc.trans hg4)
  have HST := Lib.hid (hst.gr ((Gr.refl _).alloc.alloc.trans hg4))
  have HIA := Lib.hid (hia.gr ((Gr.refl _).alloc.alloc.trans hg4))
  have G4 : Hid (Gr w w4) := (by repeat (first | exact Gr.refl _ | refine Gr.alloc ?_ | refine Gr.drew ?_ | refine Gr.trans ?_ (by assumption)))
  clear hg1 hg2 hg3 hg4 hst hia
  obtain ⟨c0, c1, c2, c3, f0, f1, f2, f3, hlt⟩ := B4
  go_wp2_with fail
  refine (HSm.out _ _ _ _ (HST.out.gr (by repeat (first | exact Gr.refl _ | refine Gr.alloc ?_ | refine Gr.drew ?_ | refine Gr.trans ?_ (by assumption)))) (by simp) (by simp) (by simp)).mono ?_
  rintro e w5 ⟨rfl, hg5⟩
  have c3' := Gr.keep (w1 := w5) ((Gr.refl w4).alloc.alloc.trans hg5) c3
  go_wp2_with fail
  refine (HNm.out _ _ _ _ (HIA.out.gr (by repeat (first | exact Gr.refl _ | refine Gr.alloc ?_ | refine Gr.drew ?_ | refine Gr.trans ?_ (by assumption)))) (by simp)).mono ?_
  rintro e w6 ⟨rfl, hg6⟩
  go_wp2
  go_ret
  exact ⟨rfl, G4.out.trans (by repeat (first | exact Gr.refl _ | refine Gr.alloc ?_ | refine Gr.drew ?_ | refine Gr.trans ?_ (by assumption)))⟩
end Go.Proofs.YtoeibjflaiiljaaDoor
