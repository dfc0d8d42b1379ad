/- Parts of these proofs, laid together. -/
import Derived.Test.YtcmbppjfpdkblaaGreatDoorGC
import Derived.Test.YtcmbppjfpdkblaaGreatDoorShelf
import Derived.Deep.RegionHeld3
import Derived.Lib.AppendZeros
import Derived.Laws.AppendOwnNone
import Derived.BigRegion
/- pathOf: the path of an id. -/
namespace Go.Proofs.YtcmbppjfpdkblaaGreatDoor
open Go.RowKit

theorem path_more (r : Int) (L : List (Int × Int)) (k : Nat) (h : k < L.length) : Idn.path r (L.take (k + 1)) = Idn.path r (L.take k) ++ [L[k].2] := by
  unfold Idn.path; rw [List.take_succ_eq_append_getElem h, List.map_append]; rfl
theorem path_len (r : Int) (L : List (Int × Int)) : (Idn.path r L).length = L.length + 1 := by simp [Idn.path]

set_option maxHeartbeats 1000000 in
set_option maxRecDepth 100000 in
theorem pathOf_any (r n : Int) (L : List (Int × Int)) (ad : Option Addr) (cap : Nat) (w : World) (hL : HopsAt w ad L) (hn : L.length ≤ 1000) :
    Calls Tryz.prog 55 #[.agg #[.int .i64 r, .int .i64 n, .slice ad L.length cap]] w fun e w' =>
      ∃ ad2 cap2, e = .returned (.slice ad2 (L.length + 1) cap2) ∧ L.length + 1 ≤ cap2 ∧ IntsAt w' ad2 (Idn.path r L) ∧ Gr w w' := by
  obtain ⟨i0, hi, hz0, hz1, hz2⟩ := info_parts infoInt
  have HL : Hid (HopsAt w ad L) := hL
  clear hL
  go_enter Tryz.func55, Tryz.ntmps55
  go_wp2
  go_loopw [3, 12] (fun p i wr => ∃ k : Nat, k ≤ L.length ∧ i = .int .i64 k ∧ wr.ownsRow w.heap.size 3 1 p (k + 1) (intV (Idn.path r (L.take k))) ∧ Below w.heap.size w wr)
    (fun _ i _ => L.length - (intOf i).toNat)
  case atStart => exact ⟨0, by omega, rfl, own_lit1 _ _ _ _ _ (by simp) (by simp), ((Below.refl _ _).alloc (Nat.le_refl _) _).alloc (by simp) _⟩
  case round =>
    obtain ⟨k, hk, rfl, hown, hb⟩ := hrel
    have hbs := hb.size
    by_cases hlt : k < L.length
    · obtain ⟨b, off, rfl, hbl, hc, hd⟩ := HL.out k hlt
      have hc' := (hb.cell (p := ⟨b, off + k * 2, none⟩) hbl).trans hc
      have hd' := (hb.cell (p := ⟨b, off + k * 2 + 1, none⟩) hbl).trans hd
      have HP : Hid (intV (Idn.path r (L.take (k + 1))) = intV (Idn.path r (L.take k)) ++ [.int .i64 L[k].2]) := by
        show _ = _
        rw [path_more r L k hlt]; simp [intV]
      have hm1 : k + 1 + 1 ≤ maxLen := by unfold maxLen; omega
      obtain ⟨⟨h1, h2⟩, hh⟩ : ∃ h, L[k] = h := ⟨_, rfl⟩
      rw [hh] at hc' hd' HP
      clear hc hd hh
      go_wp2_with (first
        | (at_builtin; refine wpList_append_own _ rfl _ _ 52 rfl w.heap.size 3 i0 (.int .i64 0) 1 8 Tryz.underlying52 hi hz0 hz1 hz2 rfl (by decide) _ _ _ rfl ((hown.alloc _).alloc _) ⟨wr.heap.size + 1, 0, none⟩ 1 1 [.int .i64 h2] rfl rfl (cell_one_at _ _ _ _ (by simp)) (by intro u hu; simp at hu; subst hu; rfl) hm1 (by omega) (by simp; omega) ?_)
        | fail)
      intro v' w1 hown' hgrow _
      go_wp2
      go_roundw
      case rel =>
        exact ⟨k + 1, by omega, by go_num, by rw [HP.out]; exact hown', ((hb.alloc hbs _).alloc (by simp; omega) _).grown hgrow (by simp; omega) (fun k hk => (hown.lt k hk).1)⟩
      case measure => simp [intOf]; omega
    · have hkl : k = L.length := by omega
      subst hkl
      have key : ∀ {u : Value}, wr.ownsRow w.heap.size 3 1 u (L.length + 1) (intV (Idn.path r (L.take L.length))) → ∃ ad2 cap2, u = .slice ad2 (L.length + 1) cap2 ∧ L.length + 1 ≤ cap2 ∧ IntsAt wr ad2 (Idn.path r L) := by
        intro u h
        rw [List.take_length] at h
        have := own_ints (l := Idn.path r L) (by rw [path_len]; exact h)
        rw [path_len] at this
        exact this
      obtain ⟨ad2, cap2, rfl, hcp, hia⟩ := key hown
      have HI : Hid (IntsAt wr ad2 (Idn.path r L)) := hia
      clear hown key hia
      go_wp2
      go_ret
      exact ⟨ad2, cap2, rfl, hcp, HI.out, ⟨hb⟩⟩
end Go.Proofs.YtcmbppjfpdkblaaGreatDoor
/- checkPath and Check: may an id be? -/
namespace Go.Proofs.YtcmbppjfpdkblaaGreatDoor
open Go.RowKit

def errB (b : Bool) : Int := if b = true then 0 else 30

set_option maxHeartbeats 1000000 in
set_option maxRecDepth 100000 in
theorem checkPath_any (l : List Int) (ad : Option Addr) (cap : Nat) (w : World) (hL : IntsAt w ad l) (hn : l.length ≤ 1001) (hcap : l.length ≤ cap) :
    Calls Tryz.prog 76 #[.slice ad l.length cap] w fun e w' => e = .returned (.int .i64 (errB (Idn.pathB [] l))) ∧ w' = w := by
  have HL : Hid (IntsAt w ad l) := hL
  clear hL
  go_enter Tryz.func76, Tryz.ntmps76
  go_wp2
  go_loop [7] (fun i => ∃ k : Nat, k ≤ l.length ∧ i = .int .i64 k ∧ Idn.pathB [] l = Idn.pathB (l.take k) (l.drop k)) (fun i => l.length - (intOf i).toNat)
  case atStart => exact ⟨0, by omega, rfl, by simp⟩
  case round =>
    obtain ⟨k, hk, rfl, hp⟩ := hrel
    have HP : Hid (Idn.pathB [] l = Idn.pathB (l.take k) (l.drop k)) := hp
    clear hp
    by_cases hlt : k < l.length
    · obtain ⟨b, off, rfl, hbl, hc⟩ := HL.out k hlt
      have HP2 : Hid (Idn.pathB [] l = (decide (0 ≤ l[k]) && decide (l[k] < 16) && !((l.take k).contains l[k]) && Idn.pathB (l.take (k + 1)) (l.drop (k + 1)))) := by
        show _ = _
        rw [HP.out, List.drop_eq_getElem_cons hlt, Idn.pathB, List.take_succ_eq_append_getElem hlt]
      have hall : ∀ j, j < l.length → w.cell? ⟨b, off + j, none⟩ = some (.int .i64 (l.getD j 0)) := by
        intro j hj
        obtain ⟨b', off', e, _, h⟩ := HL.out j hj
        simp at e
        obtain ⟨rfl, rfl⟩ := e
        rw [h, List.getD_eq_getElem?_getD, List.getElem?_eq_getElem hj]; rfl
      have HC : Hid (Calls Tryz.prog 91 #[.slice (some ⟨b, off, none⟩) k cap, .int .i64 l[k]] w fun e w' => e = .returned (.bool ((l.take k).contains l[k])) ∧ w' = w) := Tryz.slices_Contains_int b off k cap l l[k] w (by omega) (by omega) hall
      generalize (l.take k).contains l[k] = ct at HC HP2
      generalize l[k] = o at *
      clear hall
      by_cases h0 : 0 ≤ o
      · by_cases h1 : o < 16
        · cases ct with
          | true =>
            go_wp2_with fail
            refine HC.out.mono ?_
            rintro e1 w1 ⟨rfl, hw1⟩; obtain rfl := hw1.symm
            go_wp2
            go_ret
            exact ⟨by rw [HP2.out]; simp [errB], rfl⟩
          | false =>
            go_wp2_with fail
            refine HC.out.mono ?_
            rintro e1 w1 ⟨rfl, hw1⟩; obtain rfl := hw1.symm
            go_wp2
            go_round
            case rel => exact ⟨k + 1, by omega, by go_num, by rw [HP2.out]; simp [h0, h1]⟩
            case measure => simp [intOf]; omega
        · have HF : Hid (Idn.pathB [] l = false) := by show _ = _; rw [HP2.out]; simp [h1]
          go_wp2
          go_ret
          exact ⟨by rw [HF.out]; rfl, rfl⟩
      · have HF : Hid (Idn.pathB [] l = false) := by show _ = _; rw [HP2.out]; simp [h0]
        go_wp2
        go_ret
        exact ⟨by rw [HF.out]; rfl, rfl⟩
    · go_wp2
      go_ret
      exact ⟨by rw [HP.out, List.drop_eq_nil_of_le (by omega)]; rfl, rfl⟩

set_option maxHeartbeats 1000000 in
set_option maxRecDepth 100000 in
theorem check_any (r n : Int) (L : List (Int × Int)) (ad : Option Addr) (cap : Nat) (w : World) (hL : HopsAt w ad L) (hn : L.length ≤ 9223372036854775807) :
    Calls Tryz.prog 54 #[.agg #[.int .i64 r, .int .i64 n, .slice ad L.length cap]] w fun e w' => e = .returned (.int .i64 (errB (Idn.mayB r n L))) ∧ Gr w w' := by
  by_cases h1 : 1 ≤ n
  · by_cases h2 : n ≤ 999999
    · by_cases h3 : L.length ≤ 4
      · have HM : Hid (Idn.mayB r n L = (Idn.stepsB L && Idn.pathB [] (Idn.path r L))) := by
          show _ = _
          simp [Idn.mayB, h1, h2, h3]
        have HL : Hid (HopsAt w ad L) := hL
        have HO : Hid (∀ w', Gr w w' → Calls Tryz.prog 55 #[.agg #[.int .i64 r, .int .i64 n, .slice ad L.length cap]] w' fun e w2 => ∃ ad2 cap2, e = .returned (.slice ad2 (L.length + 1) cap2) ∧ L.length + 1 ≤ cap2 ∧ IntsAt w2 ad2 (Idn.path r L) ∧ Gr w' w2) := fun w' g => pathOf_any r n L ad cap w' (hL.gr g) (by omega)
        clear hL
        go_enter Tryz.func54, Tryz.ntmps54
        go_wp2
        go_loopw [22] (fun i wr => ∃ k : Nat, k ≤ L.length ∧ i = .int .i64 k ∧ Idn.stepsB L = Idn.stepsB (L.drop k) ∧ Below (w.heap.size + 1) (w.alloc (.cells #[.int .i64 r, .int .i64 n, .slice ad L.length cap] 24)) wr) (fun i _ => L.length - (intOf i).toNat)
        case atStart => exact ⟨0, by omega, rfl, rfl, Below.refl _ _⟩
        case round =>
          obtain ⟨k, hk, rfl, hs, hb⟩ := hrel
          have hbs : w.heap.size + 1 ≤ wr.heap.size := by have := hb.size; simpa using this
          have HS : Hid (Idn.stepsB L = Idn.stepsB (L.drop k)) := hs
          have hgr : Gr w wr := ⟨((Below.refl _ _).alloc (Nat.le_refl _) _).trans (hb.mono (by omega))⟩
          have q0 : wr.cell? ⟨w.heap.size, 0, none⟩ = some (.int .i64 r) := (hb.cell (p := ⟨w.heap.size, 0, none⟩) (by simp)).trans (by simp)
          have q1 : wr.cell? ⟨w.heap.size, 1, none⟩ = some (.int .i64 n) := (hb.cell (p := ⟨w.heap.size, 1, none⟩) (by simp)).trans (by simp)
          have q2 : wr.cell? ⟨w.heap.size, 2, none⟩ = some (.slice ad L.length cap) := (hb.cell (p := ⟨w.heap.size, 2, none⟩) (by simp)).trans (by simp)
          clear hs
          by_cases hlt : k < L.length
          · obtain ⟨b, off, rfl, hbl, hc, hd⟩ := HL.out k hlt
            have hc' := hgr.keep hc
            have hd' := hgr.keep hd
            have HS2 : Hid (Idn.stepsB L = (decide (0 ≤ L[k].1) && decide (L[k].1 < 8) && Idn.stepsB (L.drop (k + 1)))) := by
              show _ = _
              rw [HS.out, List.drop_eq_getElem_cons hlt]; rfl
            obtain ⟨⟨p1, p2⟩, hh⟩ : ∃ h, L[k] = h := ⟨_, rfl⟩
            rw [hh] at hc' hd' HS2
            clear hc hd hh HL
            by_cases g0 : 0 ≤ p1
            · by_cases g1 : p1 < 8
              · go_wp2
                go_roundw
                case rel => exact ⟨k + 1, by omega, by go_num, by rw [HS2.out]; simp [g0, g1], hb.alloc hbs _⟩
                case measure => simp [intOf]; omega
              · have HF : Hid (Idn.mayB r n L = false) := by show _ = _; rw [HM.out, HS2.out]; simp [g1]
                go_wp2
                go_ret
                exact ⟨by rw [HF.out]; rfl, ⟨hgr.below.alloc hgr.size _⟩⟩
            · have HF : Hid (Idn.mayB r n L = false) := by show _ = _; rw [HM.out, HS2.out]; simp [g0]
              go_wp2
              go_ret
              exact ⟨by rw [HF.out]; rfl, ⟨hgr.below.alloc hgr.size _⟩⟩
          · have HM2 : Hid (Idn.mayB r n L = Idn.pathB [] (Idn.path r L)) := by
              show _ = _
              rw [HM.out, HS.out, List.drop_eq_nil_of_le (by omega)]; simp [Idn.stepsB]
            have HC : Hid (∀ (w' : World) (ad2 : Option Addr) (cap2 : Nat), IntsAt w' ad2 (Idn.path r L) → L.length + 1 ≤ cap2 → Calls Tryz.prog 76 #[.slice ad2 (L.length + 1) cap2] w' fun e w2 => e = .returned (.int .i64 (errB (Idn.pathB [] (Idn.path r L)))) ∧ w2 = w') := by
              intro w' ad2 cap2 hi hc
              have := checkPath_any (Idn.path r L) ad2 cap2 w' hi (by rw [path_len]; omega) (by rw [path_len]; exact hc)
              rw [path_len] at this
              exact this
            go_wp2_with fail
            refine (HO.out _ hgr).mono ?_
            rintro e1 w1 ⟨ad2, cap2, rfl, hcp, hia, hg1⟩
            go_wp2_with fail
            refine (HC.out _ _ _ hia hcp).mono ?_
            rintro e2 w2 ⟨rfl, hw2⟩; obtain rfl := hw2.symm
            go_wp2
            go_ret
            exact ⟨by rw [HM2.out]; rfl, hgr.trans hg1⟩
      · have h3' : ((4 : Int) < L.length) := by omega
        have HM : Hid (Idn.mayB r n L = false) := by show _ = _; simp [Idn.mayB, h3]
        go_enter Tryz.func54, Tryz.ntmps54
        go_wp2
        go_ret
        exact ⟨by rw [HM.out]; rfl, ⟨(Below.refl _ _).alloc (Nat.le_refl _) _⟩⟩
    · have HM : Hid (Idn.mayB r n L = false) := by show _ = _; simp [Idn.mayB, h2]
      go_enter Tryz.func54, Tryz.ntmps54
      go_wp2
      go_ret
      exact ⟨by rw [HM.out]; rfl, ⟨(Below.refl _ _).alloc (Nat.le_refl _) _⟩⟩
  · have HM : Hid (Idn.mayB r n L = false) := by show _ = _; simp [Idn.mayB, h1]
    go_enter Tryz.func54, Tryz.ntmps54
    go_wp2
    go_ret
    exact ⟨by rw [HM.out]; rfl, ⟨(Below.refl _ _).alloc (Nat.le_refl _) _⟩⟩
end Go.Proofs.YtcmbppjfpdkblaaGreatDoor
/- slices.Clone and slices.Grow, slices.Concat of hops. -/
namespace Go.Proofs.YtcmbppjfpdkblaaGreatDoor
open Go.RowKit

def hopV (L : List (Int × Int)) : List Value := L.flatMap fun h => [.int .i64 h.1, .int .i64 h.2]
theorem hopV_len (L : List (Int × Int)) : (hopV L).length = L.length * 2 := by
  induction L with
  | nil => rfl
  | cons h t ih => simp [hopV] at ih ⊢; omega
theorem hopV_app (L M : List (Int × Int)) : hopV (L ++ M) = hopV L ++ hopV M := by simp [hopV]
theorem hopV_get (L : List (Int × Int)) : ∀ j (h : j < L.length), (hopV L)[j * 2]? = some (.int .i64 L[j].1) ∧ (hopV L)[j * 2 + 1]? = some (.int .i64 L[j].2) := by
  induction L with
  | nil => intro j h; simp at h
  | cons x t ih =>
    intro j h
    have e : hopV (x :: t) = .int .i64 x.1 :: .int .i64 x.2 :: hopV t := rfl
    rw [e]
    cases j with
    | zero => exact ⟨rfl, rfl⟩
    | succ j =>
      obtain ⟨h1, h2⟩ := ih j (by simpa using h)
      refine ⟨?_, ?_⟩
      · have : (j + 1) * 2 = j * 2 + 1 + 1 := by omega
        rw [this]; simpa using h1
      · have : (j + 1) * 2 + 1 = j * 2 + 1 + 1 + 1 := by omega
        rw [this]; simpa using h2
theorem hopV_one (L : List (Int × Int)) : ∀ u ∈ hopV L, u.oneCell' = true := by
  intro u hu
  simp only [hopV, List.mem_flatMap] at hu
  obtain ⟨h, _, hu⟩ := hu
  simp at hu
  rcases hu with rfl | rfl <;> rfl
/- what hops in memory are, cell by cell -/
theorem HopsAt.news {w : World} {b off : Nat} {L : List (Int × Int)} (h : HopsAt w (some ⟨b, off, none⟩) L) : ∀ j u, (hopV L)[j]? = some u → w.cell? ((⟨b, off, none⟩ : Addr).add j) = some u := by
  intro j u hu
  have hj : j < L.length * 2 := by
    rw [← hopV_len]
    exact (List.getElem?_eq_some_iff.1 hu).1
  have hj2 : j / 2 < L.length := by omega
  obtain ⟨b', off', e, _, h1, h2⟩ := h (j / 2) hj2
  simp at e
  obtain ⟨rfl, rfl⟩ := e
  obtain ⟨g1, g2⟩ := hopV_get L (j / 2) hj2
  rw [Addr.add_lit]
  rcases Nat.mod_two_eq_zero_or_one j with hm | hm
  · have e : j = j / 2 * 2 := by omega
    rw [e] at hu ⊢
    rw [g1] at hu
    rw [← hu]; exact h1
  · have e : j = j / 2 * 2 + 1 := by omega
    rw [e] at hu ⊢
    rw [g2] at hu
    rw [← hu, ← Nat.add_assoc]; exact h2
/- a row of hops that the call owns -/
theorem own_hops {base : Nat} {v : Value} {L : List (Int × Int)} {w : World} (h : w.ownsRow base 56 2 v L.length (hopV L)) : ∃ ad cap, v = .slice ad L.length cap ∧ L.length ≤ cap ∧ HopsAt w ad L ∧ ∀ a, ad = some a → base ≤ a.block := by
  have hcell := fun g (hg : v.ownBlock = some g) => h.cells hg
  have hlt := h.lt
  obtain ⟨_, ⟨rfl, h0⟩ | ⟨g, cap, cur, rfl, hx⟩⟩ := h
  · have : L = [] := List.length_eq_zero_iff.1 h0
    subst this
    exact ⟨none, 0, rfl, by simp, HopsAt.nil, fun a e => by cases e⟩
  · refine ⟨some ⟨g, 0, none⟩, cap, rfl, hx.2.2.1, ?_, fun a e => by cases e; exact (hlt g rfl).1⟩
    intro j hj
    obtain ⟨g1, g2⟩ := hopV_get L j hj
    have c1 := hcell g rfl _ _ g1
    have c2 := hcell g rfl _ _ g2
    rw [Addr.add_lit] at c1 c2
    exact ⟨g, 0, rfl, (hlt g rfl).2, c1, by rw [← Nat.add_assoc] at c2; exact c2⟩
theorem HopsAt.alloc {w : World} {ad : Option Addr} {L : List (Int × Int)} {ob : Obj} (h : HopsAt w ad L) : HopsAt (w.alloc ob) ad L := h.gr (Gr.refl _).alloc
theorem HopsAt.drew {w : World} {ad : Option Addr} {L : List (Int × Int)} (h : HopsAt w ad L) : HopsAt w.drew ad L := h.gr (Gr.refl _).drew
theorem HopsAt.set {w : World} {ad : Option Addr} {L : List (Int × Int)} (h : HopsAt w ad L) (p : Addr) (v : Value) (hp : ∀ a, ad = some a → p.block ≠ a.block) : HopsAt (w.setCell p v) ad L := by
  intro j hj
  obtain ⟨b, off, e, hb, h1, h2⟩ := h j hj
  have hne : p.block ≠ b := hp _ e
  refine ⟨b, off, e, by simpa using hb, ?_, ?_⟩
  · rw [World.cell?_setCell_far _ _ _ _ (by simpa using hne)]; exact h1
  · rw [World.cell?_setCell_far _ _ _ _ (by simpa using hne)]; exact h2
theorem own_lit0 (w : World) (base : Nat) (t : TypeId) (g : Nat) (hg : g = w.heap.size) (hb : base ≤ w.heap.size) : (w.alloc (.cells #[] t)).ownsRow base t 2 (.slice (some ⟨g, 0, none⟩) 0 0) 0 [] := by
  subst hg; exact World.ownsRow_lit w #[] 0 hb (by unfold maxLen; omega) rfl

set_option maxHeartbeats 1000000 in
set_option maxRecDepth 100000 in
theorem clone_any (L : List (Int × Int)) (b off cap : Nat) (w : World) (hL : HopsAt w (some ⟨b, off, none⟩) L) (hn : L.length ≤ 1000) :
    Calls Tryz.prog 56 #[.slice (some ⟨b, off, none⟩) L.length cap] w fun e w' => ∃ ad2 cap2, e = .returned (.slice ad2 L.length cap2) ∧ L.length ≤ cap2 ∧ HopsAt w' ad2 L ∧ (∀ a, ad2 = some a → w.heap.size ≤ a.block) ∧ Gr w w' := by
  obtain ⟨i0, hi, hz0, hz1, hz2⟩ := info_parts infoHop
  have hnews := (hL.gr ((Gr.refl w).alloc (o := .cells #[] 56))).news
  have HN : Hid (∀ j u, (hopV L)[j]? = some u → (w.alloc (.cells #[] 56)).cell? ((⟨b, off, none⟩ : Addr).add j) = some u) := hnews
  have hln := hopV_len L
  have hm1 : 0 + L.length ≤ maxLen := by unfold maxLen; omega
  clear hL hnews
  have he : ∀ w : World, (binOp .eql 22 (.slice (some ⟨b, off, none⟩) L.length cap) (.slice none 0 0)).run Tryz.prog w = .ok (.bool false) w := fun _ => rfl
  go_enter Tryz.func56, Tryz.ntmps56
  go_wp2_with (first
    | (at_builtin; refine wpList_append_own _ rfl _ _ 22 rfl w.heap.size 56 i0 (.agg #[.int .i64 0, .int .i64 0]) 2 16 Tryz.underlying22 hi hz0 hz1 hz2 rfl (by decide) _ _ _ rfl (own_lit0 _ _ _ _ (by simp) (by simp)) ⟨b, off, none⟩ L.length cap (hopV L) rfl hln HN.out (hopV_one L) hm1 (by omega) (by simp) ?_)
    | fail)
  intro v' w1 hown' hgrow _
  obtain ⟨ad2, cap2, rfl, hcp, hia, hfr⟩ := own_hops hown'
  have HI : Hid (HopsAt w1 ad2 L) := hia
  have HFR : Hid (∀ a, ad2 = some a → w.heap.size ≤ a.block) := hfr
  have hb1 : Below w.heap.size w (w.alloc (.cells #[] 56)) := (Below.refl w.heap.size w).alloc (Nat.le_refl _) _
  have HG : Hid (Gr w w1) := ⟨hb1.grown hgrow (by simp) (fun k hk => by simp [Value.ownBlock] at hk; omega)⟩
  clear hown' hia hfr
  go_wp2
  go_ret
  exact ⟨ad2, cap2, rfl, hcp, HI.out, HFR.out, HG.out⟩

theorem zeroCells_len (z : Array Value) (n : Nat) : (Builtin.zeroCells z n).size = n * z.size := by
  simp [Builtin.zeroCells]

theorem own_grow {base : Nat} {w w' : World} (h : Below base w w') (hb : base ≤ w.heap.size) (o : Obj) : Below base w (w'.alloc o) := h.alloc (Nat.le_trans hb h.size) o

end Go.Proofs.YtcmbppjfpdkblaaGreatDoor
/- Parent: the id without its last hop, that hop's Step. -/
namespace Go.Proofs.YtcmbppjfpdkblaaGreatDoor
open Go.RowKit

theorem Gr.set {a b : World} (h : Gr a b) (p : Addr) (hp : a.heap.size ≤ p.block) (v : Value) : Gr a (b.setCell p v) := ⟨h.below.setCell hp v⟩

/- a struct of three cells in memory that may be written -/
structure BoxAt (w : World) (g : Nat) (a b c : Value) : Prop where
  c0 : w.cell? ⟨g, 0, none⟩ = some a
  c1 : w.cell? ⟨g, 1, none⟩ = some b
  c2 : w.cell? ⟨g, 2, none⟩ = some c
  f0 : w.frozen? ⟨g, 0, none⟩ = false
  f1 : w.frozen? ⟨g, 1, none⟩ = false
  f2 : w.frozen? ⟨g, 2, none⟩ = false
  lt : g < w.heap.size
theorem Gr.keepF {W w1 : World} (g : Gr W w1) {p : Addr} (hb : p.block < W.heap.size) (h : W.frozen? p = false) : w1.frozen? p = false := (g.below.frozen hb).trans h
theorem BoxAt.gr {w w' : World} {g : Nat} {a b c : Value} (h : BoxAt w g a b c) (k : Gr w w') : BoxAt w' g a b c :=
  ⟨k.keep h.c0, k.keep h.c1, k.keep h.c2, k.keepF h.lt h.f0, k.keepF h.lt h.f1, k.keepF h.lt h.f2, Nat.lt_of_lt_of_le h.lt k.size⟩
theorem BoxAt.new (w : World) (a b c : Value) (t : TypeId) (g : Nat) (hg : g = w.heap.size) : BoxAt (w.alloc (.cells #[a, b, c] t)) g a b c := by
  subst hg
  exact ⟨by simp, by simp, by simp, by simp [go_sem], by simp [go_sem], by simp [go_sem], by simp⟩

set_option maxHeartbeats 1000000 in
set_option maxRecDepth 100000 in
theorem parent_no (r n : Int) (L : List (Int × Int)) (ad : Option Addr) (cap : Nat) (w : World) (hL : HopsAt w ad L) (hn : L.length ≤ 9223372036854775807) (hm : Idn.mayB r n L = false ∨ L = []) :
    Calls Tryz.prog 25 #[.agg #[.int .i64 r, .int .i64 n, .slice ad L.length cap]] w fun e w' => e = .returned (.tuple #[.agg #[.int .i64 0, .int .i64 0, .slice none 0 0], .int .i64 0, .bool false]) ∧ Gr w w' := by
  have HC : Hid (∀ w', Gr w w' → Calls Tryz.prog 54 #[.agg #[.int .i64 r, .int .i64 n, .slice ad L.length cap]] w' fun e w2 => e = .returned (.int .i64 (errB (Idn.mayB r n L))) ∧ Gr w' w2) := fun w' g => check_any r n L ad cap w' (hL.gr g) hn
  clear hL
  by_cases h1 : Idn.mayB r n L = false
  · rw [h1, show errB false = 30 from rfl] at HC
    clear h1 hm
    go_enter Tryz.func25, Tryz.ntmps25
    go_wp2_with fail
    refine (HC.out _ (by repeat (first | exact Gr.refl _ | refine Gr.alloc ?_ | refine Gr.drew ?_ | refine Gr.trans ?_ (by assumption)))).mono ?_
    rintro e1 w1 ⟨rfl, hg1⟩
    obtain ⟨hc1, hf1⟩ := hg1.cells
    go_wp2
    exact bodyPost_ret (v := .tuple #[.agg #[.int .i64 0, .int .i64 0, .slice none 0 0], .int .i64 0, .bool false]) (by simp [results, Tryz.results25, go_sem, hc1]) rfl ⟨rfl, (by (repeat' (first | with_reducible exact Gr.refl _ | with_reducible refine Gr.set ?_ _ ?_ _ | with_reducible refine Gr.alloc ?_ | with_reducible refine Gr.drew ?_ | with_reducible refine Gr.trans ?_ (by assumption))) <;> (first | (simp; done) | (simp; omega) | omega))⟩
  · have h2 : Idn.mayB r n L = true := by simpa using h1
    obtain rfl : L = [] := by
      rcases hm with h | h
      · exact absurd h h1
      · exact h
    rw [h2, show errB true = 0 from rfl] at HC
    clear h1 hm h2
    go_enter Tryz.func25, Tryz.ntmps25
    go_wp2_with fail
    refine (HC.out _ (by repeat (first | exact Gr.refl _ | refine Gr.alloc ?_ | refine Gr.drew ?_ | refine Gr.trans ?_ (by assumption)))).mono ?_
    rintro e1 w1 ⟨rfl, hg1⟩
    obtain ⟨hc1, hf1⟩ := hg1.cells
    go_wp2
    exact bodyPost_ret (v := .tuple #[.agg #[.int .i64 0, .int .i64 0, .slice none 0 0], .int .i64 0, .bool false]) (by simp [results, Tryz.results25, go_sem, hc1]) rfl ⟨rfl, (by (repeat' (first | with_reducible exact Gr.refl _ | with_reducible refine Gr.set ?_ _ ?_ _ | with_reducible refine Gr.alloc ?_ | with_reducible refine Gr.drew ?_ | with_reducible refine Gr.trans ?_ (by assumption))) <;> (first | (simp; done) | (simp; omega) | omega))⟩

set_option maxHeartbeats 8000000 in
set_option maxRecDepth 100000 in
theorem parent_yes (r n s o : Int) (M : List (Int × Int)) (b off : Nat) (cap : Nat) (w : World) (hL : HopsAt w (some ⟨b, off, none⟩) (M ++ [(s, o)])) (hcap : M.length + 1 ≤ cap) (hm : Idn.mayB r n (M ++ [(s, o)]) = true) (h4 : M.length ≤ 3) :
    Calls Tryz.prog 25 #[.agg #[.int .i64 r, .int .i64 n, .slice (some ⟨b, off, none⟩) (M.length + 1) cap]] w fun e w' =>
      ∃ ad2 cap2, e = .returned (.tuple #[.agg #[.int .i64 r, .int .i64 n, .slice ad2 M.length cap2], .int .i64 s, .bool true]) ∧ M.length ≤ cap2 ∧ HopsAt w' ad2 M ∧ Gr w w' := by
  have HC : Hid (∀ w', Gr w w' → Calls Tryz.prog 54 #[.agg #[.int .i64 r, .int .i64 n, .slice (some ⟨b, off, none⟩) (M.length + 1) cap]] w' fun e w2 => e = .returned (.int .i64 0) ∧ Gr w' w2) := by
    intro w' g
    have := check_any r n (M ++ [(s, o)]) (some ⟨b, off, none⟩) cap w' (hL.gr g) (by simp; omega)
    rw [hm, List.length_append] at this
    exact this
  have HK : Hid (∀ w', Gr w w' → Calls Tryz.prog 56 #[.slice (some ⟨b, off, none⟩) M.length cap] w' fun e w2 => ∃ ad2 cap2, e = .returned (.slice ad2 M.length cap2) ∧ M.length ≤ cap2 ∧ HopsAt w2 ad2 M ∧ (∀ a, ad2 = some a → w'.heap.size ≤ a.block) ∧ Gr w' w2) := by
    intro w' g
    refine clone_any M b off cap w' ?_ (by omega)
    have := hL.take M.length
    rw [List.take_left] at this
    exact this.gr g
  obtain ⟨b', off', e, hbl, hc, _⟩ := hL M.length (by simp)
  simp at e
  obtain ⟨rfl, rfl⟩ := e
  simp at hc
  have hne : (((M.length : Int) + 1) == 0) = false := by rw [beq_eq_false_iff_ne]; omega
  have hm1 : (M.length : Int) ≤ cap := by omega
  have hm0 : (0 : Int) ≤ M.length := by omega
  clear hL hm
  go_enter Tryz.func25, Tryz.ntmps25
  go_wp2_with fail
  refine (HC.out _ (by repeat (first | exact Gr.refl _ | refine Gr.alloc ?_ | refine Gr.drew ?_ | refine Gr.trans ?_ (by assumption)))).mono ?_
  rintro e1 w1 ⟨rfl, hg1⟩
  have p0 : w1.cell? ⟨w.heap.size, 0, none⟩ = some (.int .i64 r) := hg1.keep (by simp)
  have p1 : w1.cell? ⟨w.heap.size, 1, none⟩ = some (.int .i64 n) := hg1.keep (by simp)
  have p2 : w1.cell? ⟨w.heap.size, 2, none⟩ = some (.slice (some ⟨b, off, none⟩) (M.length + 1) cap) := hg1.keep (by simp)
  have hw1 : w.heap.size ≤ w1.heap.size := by have := hg1.size; simp at this; omega
  have hw2 : w.heap.size + 1 < w1.heap.size := by have := hg1.size; simp at this; omega
  have bx : BoxAt w1 (w.heap.size + 1) (.int .i64 0) (.int .i64 0) (.slice none 0 0) := (BoxAt.new _ _ _ _ _ _ (by simp)).gr hg1
  have hgw : Gr w w1 := (by repeat (first | exact Gr.refl _ | refine Gr.alloc ?_ | refine Gr.drew ?_ | refine Gr.trans ?_ (by assumption)))
  have hh := hgw.keep hc
  have hbw : b < w1.heap.size := by omega
  clear hgw
  have hn1 : w.heap.size + 1 ≠ w1.heap.size := by omega
  have hn2 : w.heap.size ≠ w1.heap.size := by omega
  have hn3 : b ≠ w1.heap.size := by omega
  have hn4 : b ≠ w.heap.size + 1 := by omega
  have hlt : (M.length : Int) < M.length + 1 := by omega
  go_wp2
  go_region_held3 (fun w' => Gr w w' ∧ Gr w1 w' ∧ w'.cell? ⟨w.heap.size, 0, none⟩ = some (.int .i64 r) ∧ w'.cell? ⟨w.heap.size, 1, none⟩ = some (.int .i64 n) ∧ w'.cell? ⟨w.heap.size, 2, none⟩ = some (.slice (some ⟨b, off, none⟩) (M.length + 1) cap))
    ((go_split_ands; exact ⟨(by (repeat' (first | with_reducible exact Gr.refl _ | with_reducible refine Gr.set ?_ _ ?_ _ | with_reducible refine Gr.alloc ?_ | with_reducible refine Gr.drew ?_ | with_reducible refine Gr.trans ?_ (by assumption))) <;> (first | (simp; done) | (simp; omega) | omega)), (by (repeat' (first | with_reducible exact Gr.refl _ | with_reducible refine Gr.set ?_ _ ?_ _ | with_reducible refine Gr.alloc ?_ | with_reducible refine Gr.drew ?_ | with_reducible refine Gr.trans ?_ (by assumption))) <;> (first | (simp; done) | (simp; omega) | omega)), Gr.keep (W := w1) (by (repeat' (first | with_reducible exact Gr.refl _ | with_reducible refine Gr.set ?_ _ ?_ _ | with_reducible refine Gr.alloc ?_ | with_reducible refine Gr.drew ?_ | with_reducible refine Gr.trans ?_ (by assumption))) <;> (first | (simp; done) | (simp; omega) | omega)) p0, Gr.keep (W := w1) (by (repeat' (first | with_reducible exact Gr.refl _ | with_reducible refine Gr.set ?_ _ ?_ _ | with_reducible refine Gr.alloc ?_ | with_reducible refine Gr.drew ?_ | with_reducible refine Gr.trans ?_ (by assumption))) <;> (first | (simp; done) | (simp; omega) | omega)) p1, Gr.keep (W := w1) (by (repeat' (first | with_reducible exact Gr.refl _ | with_reducible refine Gr.set ?_ _ ?_ _ | with_reducible refine Gr.alloc ?_ | with_reducible refine Gr.drew ?_ | with_reducible refine Gr.trans ?_ (by assumption))) <;> (first | (simp; done) | (simp; omega) | omega)) p2⟩))
    ((first | (go_at_call 56; refine (HK.out _ ?_).mono ?_; (go_split_ands; exact (by repeat (first | exact Gr.refl _ | refine Gr.alloc ?_ | refine Gr.drew ?_ | refine Gr.trans ?_ (by assumption)))); rintro e w2 ⟨ad2, cap2, rfl, hcp, hia, hfr, hg2⟩; obtain ⟨hc2, hf2⟩ := hg2.cells; have hg3 : Gr w1 w2 := (by exact (by repeat (first | exact Gr.refl _ | refine Gr.alloc ?_ | refine Gr.drew ?_ | refine Gr.trans ?_ (by assumption)))); obtain ⟨b0, b1, b2, b3, b4, b5, b6⟩ := bx.gr hg3; have hz2 := hg2.size; simp at hz2; have hz3 : b < w2.heap.size := (by omega); have hz4 : w.heap.size < w2.heap.size := (by omega); have y1 := hg3.keep hh; have y2 := hg3.keep p2)))
  all_goals go_wp2
  all_goals go_region
  all_goals go_wp2
  all_goals
    exact bodyPost_ret (v := .tuple #[.agg #[.int .i64 r, .int .i64 n, .slice ad2 M.length cap2], .int .i64 s, .bool true]) (by simp [results, Tryz.results25, go_sem, b0, b1, b2, b6]) rfl ⟨ad2, cap2, rfl, hcp, (by (repeat' (first | with_reducible exact hia | with_reducible refine HopsAt.set ?_ _ _ ?_ | with_reducible refine HopsAt.alloc ?_ | with_reducible refine HopsAt.drew ?_)) <;> (intro a e; have := hfr a e; simp at this ⊢; omega)), (by (repeat' (first | with_reducible exact Gr.refl _ | with_reducible refine Gr.set ?_ _ ?_ _ | with_reducible refine Gr.alloc ?_ | with_reducible refine Gr.drew ?_ | with_reducible refine Gr.trans ?_ (by assumption))) <;> (first | (simp; done) | (simp; omega) | omega))⟩
end Go.Proofs.YtcmbppjfpdkblaaGreatDoor
/- Path and Org. -/
namespace Go.Proofs.YtcmbppjfpdkblaaGreatDoor
open Go.RowKit

def pathE (r n : Int) (L : List (Int × Int)) : List Int := if Idn.mayB r n L = true then Idn.path r L else []
def orgE (r n : Int) (L : List (Int × Int)) : Int := (pathE r n L).getLastD (-1)
theorem may_len {r n : Int} {L : List (Int × Int)} (h : Idn.mayB r n L = true) : L.length ≤ 4 := by
  unfold Idn.mayB at h
  simp only [Bool.and_eq_true, decide_eq_true_eq] at h
  exact h.1.1.2

set_option maxHeartbeats 1000000 in
set_option maxRecDepth 100000 in
theorem path_any (r n : Int) (L : List (Int × Int)) (ad : Option Addr) (cap : Nat) (w : World) (hL : HopsAt w ad L) (hn : L.length ≤ 9223372036854775807) :
    Calls Tryz.prog 23 #[.agg #[.int .i64 r, .int .i64 n, .slice ad L.length cap]] w fun e w' =>
      ∃ ad2 cap2, e = .returned (.slice ad2 (pathE r n L).length cap2) ∧ (pathE r n L).length ≤ cap2 ∧ IntsAt w' ad2 (pathE r n L) ∧ Gr w w' := by
  have HC : Hid (∀ w', Gr w w' → Calls Tryz.prog 54 #[.agg #[.int .i64 r, .int .i64 n, .slice ad L.length cap]] w' fun e w2 => e = .returned (.int .i64 (errB (Idn.mayB r n L))) ∧ Gr w' w2) := fun w' g => check_any r n L ad cap w' (hL.gr g) hn
  by_cases hm : Idn.mayB r n L = true
  · have h4 := may_len hm
    have HO : Hid (∀ w', Gr w w' → Calls Tryz.prog 55 #[.agg #[.int .i64 r, .int .i64 n, .slice ad L.length cap]] w' fun e w2 => ∃ ad2 cap2, e = .returned (.slice ad2 (L.length + 1) cap2) ∧ L.length + 1 ≤ cap2 ∧ IntsAt w2 ad2 (Idn.path r L) ∧ Gr w' w2) := fun w' g => pathOf_any r n L ad cap w' (hL.gr g) (by omega)
    have HE : Hid (pathE r n L = Idn.path r L) := by show _ = _; unfold pathE; rw [if_pos hm]
    rw [hm, show errB true = 0 from rfl] at HC
    clear hL hm
    go_enter Tryz.func23, Tryz.ntmps23
    go_wp2_with fail
    refine (HC.out _ (by repeat (first | exact Gr.refl _ | refine Gr.alloc ?_ | refine Gr.drew ?_ | refine Gr.trans ?_ (by assumption)))).mono ?_
    rintro e1 w1 ⟨rfl, hg1⟩
    obtain ⟨hc1, hf1⟩ := hg1.cells
    go_wp2_with fail
    refine (HO.out _ (by repeat (first | exact Gr.refl _ | refine Gr.alloc ?_ | refine Gr.drew ?_ | refine Gr.trans ?_ (by assumption)))).mono ?_
    rintro e2 w2 ⟨ad2, cap2, rfl, hcp, hia, hg2⟩
    have HI : Hid (IntsAt w2 ad2 (Idn.path r L)) := hia
    clear hia
    go_wp2
    go_ret
    rw [HE.out, path_len]
    exact ⟨ad2, cap2, rfl, hcp, HI.out, (by repeat (first | exact Gr.refl _ | refine Gr.alloc ?_ | refine Gr.drew ?_ | refine Gr.trans ?_ (by assumption)))⟩
  · have hm' : Idn.mayB r n L = false := by simpa using hm
    have HE : Hid (pathE r n L = []) := by show _ = _; unfold pathE; rw [if_neg hm]
    rw [hm', show errB false = 30 from rfl] at HC
    clear hL hm hm'
    go_enter Tryz.func23, Tryz.ntmps23
    go_wp2_with fail
    refine (HC.out _ (by repeat (first | exact Gr.refl _ | refine Gr.alloc ?_ | refine Gr.drew ?_ | refine Gr.trans ?_ (by assumption)))).mono ?_
    rintro e1 w1 ⟨rfl, hg1⟩
    go_wp2
    go_ret
    rw [HE.out]
    exact ⟨none, 0, rfl, by simp, fun j h => absurd h (by simp), (by repeat (first | exact Gr.refl _ | refine Gr.alloc ?_ | refine Gr.drew ?_ | refine Gr.trans ?_ (by assumption)))⟩

set_option maxHeartbeats 1000000 in
set_option maxRecDepth 100000 in
theorem org_any (r n : Int) (L : List (Int × Int)) (ad : Option Addr) (cap : Nat) (w : World) (hL : HopsAt w ad L) (hn : L.length ≤ 9223372036854775807) :
    Calls Tryz.prog 24 #[.agg #[.int .i64 r, .int .i64 n, .slice ad L.length cap]] w fun e w' => e = .returned (.int .i64 (orgE r n L)) ∧ Gr w w' := by
  have HC : Hid (∀ w', Gr w w' → Calls Tryz.prog 23 #[.agg #[.int .i64 r, .int .i64 n, .slice ad L.length cap]] w' fun e w2 => ∃ ad2 cap2, e = .returned (.slice ad2 (pathE r n L).length cap2) ∧ (pathE r n L).length ≤ cap2 ∧ IntsAt w2 ad2 (pathE r n L) ∧ Gr w' w2) := fun w' g => path_any r n L ad cap w' (hL.gr g) hn
  have hl5 : (pathE r n L).length ≤ 5 := by
    unfold pathE
    split
    · next h => rw [path_len]; have := may_len h; omega
    · simp
  have HE : Hid (orgE r n L = (pathE r n L).getLastD (-1)) := rfl
  generalize pathE r n L = l at *
  clear hL
  by_cases h0 : l = []
  · subst h0
    go_enter Tryz.func24, Tryz.ntmps24
    go_wp2_with fail
    refine (HC.out _ (by repeat (first | exact Gr.refl _ | refine Gr.alloc ?_ | refine Gr.drew ?_ | refine Gr.trans ?_ (by assumption)))).mono ?_
    rintro e1 w1 ⟨ad2, cap2, rfl, hcp, hia, hg1⟩
    go_wp2
    go_ret
    exact ⟨by rw [HE.out]; rfl, (by repeat (first | exact Gr.refl _ | refine Gr.alloc ?_ | refine Gr.drew ?_ | refine Gr.trans ?_ (by assumption)))⟩
  · have hp : 0 < l.length := List.length_pos_iff.2 h0
    have hne : ((l.length : Int) == 0) = false := by rw [beq_eq_false_iff_ne]; omega
    have HL : Hid (orgE r n L = l[l.length - 1]'(by omega)) := by
      show _ = _
      rw [HE.out, List.getLastD_eq_getLast?, List.getLast?_eq_getElem?, List.getElem?_eq_getElem (by omega)]; rfl
    have hsub : (l.length : Int) - 1 = ((l.length - 1 : Nat) : Int) := by omega
    have hlt1 : l.length - 1 < l.length := by omega
    go_enter Tryz.func24, Tryz.ntmps24
    go_wp2_with fail
    refine (HC.out _ (by repeat (first | exact Gr.refl _ | refine Gr.alloc ?_ | refine Gr.drew ?_ | refine Gr.trans ?_ (by assumption)))).mono ?_
    rintro e1 w1 ⟨ad2, cap2, rfl, hcp, hia, hg1⟩
    obtain ⟨b, off, rfl, hbl, hc⟩ := hia (l.length - 1) (by omega)
    clear hia
    generalize l[l.length - 1]'hlt1 = o at *
    go_wp2
    go_ret
    exact ⟨by rw [HL.out]; rfl, (by repeat (first | exact Gr.refl _ | refine Gr.alloc ?_ | refine Gr.drew ?_ | refine Gr.trans ?_ (by assumption)))⟩
end Go.Proofs.YtcmbppjfpdkblaaGreatDoor
