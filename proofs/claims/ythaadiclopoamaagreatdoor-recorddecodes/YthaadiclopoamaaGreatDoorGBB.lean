/- Parts of these proofs, laid together. -/
import Derived.Test.YthaadiclopoamaaGreatDoorGQ
import Derived.Test.YthaadiclopoamaaGreatDoorGF
import Derived.Test.YthaadiclopoamaaGreatDoorGA
import Derived.BigRegion
import Derived.Test.YthaadiclopoamaaGreatDoorGO
import Derived.Test.YthaadiclopoamaaGreatDoorGG
/- the document's record: what is empty. -/
set_option maxRecDepth 100000
set_option maxHeartbeats 8000000
namespace Go.Proofs.YthaadiclopoamaaGreatDoor
open Go.RowKit
open Df (Stp)

theorem bare_any (d : ByteArray) (S : List Stp) (a2 : Option Addr) (e2 : Nat) (w : World) :
  Calls Tryz.prog 31 #[.agg #[.string d, .slice a2 S.length e2]] w fun e w' => e = .returned (.bool (Rc.baB d S)) /\ Gr w w' := by
 have ht : (d.toList == []) = decide (d = ⟨#[]⟩) := text_eq d []
 have hl : ((S.length : Int) == 0) = decide (S.length = 0) := by
  by_cases h : S.length = 0
  ·rw [h]; rfl
  ·rw [decide_eq_false h]; simpa using h
 unfold Rc.baB
 generalize decide (d = ⟨#[]⟩) = b1 at *
 generalize decide (S.length = 0) = b2 at *
 cases b1 with
 | false =>
  go_enter Tryz.func31, Tryz.ntmps31
  go_wp2
  go_ret
  exact ⟨rfl, (by repeat(first|exact Gr.r _|refine Gr.a ?_|refine Gr.d ?_|refine Gr.t ?_ (by assumption)))⟩
 | true =>
  go_enter Tryz.func31, Tryz.ntmps31
  go_wp2
  go_ret
  exact ⟨rfl, (by repeat(first|exact Gr.r _|refine Gr.a ?_|refine Gr.d ?_|refine Gr.t ?_ (by assumption)))⟩

def stpB8 (k : Int) : Bool := decide (k = 3) || decide (k = 4) || decide (k = 5) || decide (k = 6) || decide (k = 7) || decide (k = 11) || decide (k = 12) || decide (k = 15)
theorem steps_any (k : Int) (w : World) : Calls Tryz.prog 25 #[.int .i64 k] w fun e w' => e = .returned (.bool (stpB8 k)) /\ w' = w := by
 unfold stpB8
 by_cases h3 : k = 3
 ·subst h3
  go_enter Tryz.func25, Tryz.ntmps25
  go_wp2
  go_ret
  exact ⟨rfl, rfl⟩
 rw [decide_eq_false h3]
 have q3 : (k == 3) = false := by simpa using h3
 by_cases h4 : k = 4
 ·subst h4
  go_enter Tryz.func25, Tryz.ntmps25
  go_wp2
  go_ret
  exact ⟨rfl, rfl⟩
 rw [decide_eq_false h4]
 have q4 : (k == 4) = false := by simpa using h4
 by_cases h5 : k = 5
 ·subst h5
  go_enter Tryz.func25, Tryz.ntmps25
  go_wp2
  go_ret
  exact ⟨rfl, rfl⟩
 rw [decide_eq_false h5]
 have q5 : (k == 5) = false := by simpa using h5
 by_cases h6 : k = 6
 ·subst h6
  go_enter Tryz.func25, Tryz.ntmps25
  go_wp2
  go_ret
  exact ⟨rfl, rfl⟩
 rw [decide_eq_false h6]
 have q6 : (k == 6) = false := by simpa using h6
 by_cases h7 : k = 7
 ·subst h7
  go_enter Tryz.func25, Tryz.ntmps25
  go_wp2
  go_ret
  exact ⟨rfl, rfl⟩
 rw [decide_eq_false h7]
 have q7 : (k == 7) = false := by simpa using h7
 by_cases h11 : k = 11
 ·subst h11
  go_enter Tryz.func25, Tryz.ntmps25
  go_wp2
  go_ret
  exact ⟨rfl, rfl⟩
 rw [decide_eq_false h11]
 have q11 : (k == 11) = false := by simpa using h11
 by_cases h12 : k = 12
 ·subst h12
  go_enter Tryz.func25, Tryz.ntmps25
  go_wp2
  go_ret
  exact ⟨rfl, rfl⟩
 rw [decide_eq_false h12]
 have q12 : (k == 12) = false := by simpa using h12
 by_cases h15 : k = 15
 ·subst h15
  go_enter Tryz.func25, Tryz.ntmps25
  go_wp2
  go_ret
  exact ⟨rfl, rfl⟩
 rw [decide_eq_false h15]
 have q15 : (k == 15) = false := by simpa using h15
 clear h3 h4 h5 h6 h7 h11 h12 h15
 go_enter Tryz.func25, Tryz.ntmps25
 go_wp2
 go_ret
 exact ⟨rfl, rfl⟩

theorem none_any (k r n : Int) (L : List (Int × Int)) (s y : Int) (d : ByteArray) (S : List Stp) (a1 : Option Addr) (e1 : Nat) (a2 : Option Addr) (e2 : Nat) (w : World) :
  Calls Tryz.prog 37 #[.agg #[.int .i64 k, .int .i64 r, .int .i64 n, .slice a1 L.length e1, .int .i64 s, .int .i64 y, .string d, .slice a2 S.length e2]] w fun e w' => e = .returned (.bool (Rc.emB (⟨k, r, n, L, s, y, d, S⟩ : Mv))) /\ Gr w w' := by
 have HB : Hid (∀ w' : World, Calls Tryz.prog 31 #[.agg #[.string d, .slice a2 S.length e2]] w' fun e w2 => e = .returned (.bool (Rc.baB d S)) /\ Gr w' w2) := fun w' => bare_any d S a2 e2 w'
 have hl : ((L.length : Int) == 0) = decide (L.length = 0) := by
  by_cases h : L.length = 0
  ·rw [h]; rfl
  ·rw [decide_eq_false h]; simpa using h
 unfold Rc.emB
 simp only
 generalize Rc.baB d S = bb at *
 generalize decide (L.length = 0) = bl at *
 by_cases hk : k = 0
 case neg =>
  have qk : (k == 0) = false := by simpa using hk
  rw [decide_eq_false hk]
  go_enter Tryz.func37, Tryz.ntmps37
  go_wp2
  go_ret
  exact ⟨rfl, (by repeat(first|exact Gr.r _|refine Gr.a ?_|refine Gr.d ?_|refine Gr.t ?_ (by assumption)))⟩
 subst hk
 rw [decide_eq_true rfl]
 by_cases hr : r = 0
 case neg =>
  have qr : (r == 0) = false := by simpa using hr
  rw [decide_eq_false hr]
  go_enter Tryz.func37, Tryz.ntmps37
  go_wp2
  go_ret
  exact ⟨rfl, (by repeat(first|exact Gr.r _|refine Gr.a ?_|refine Gr.d ?_|refine Gr.t ?_ (by assumption)))⟩
 subst hr
 rw [decide_eq_true rfl]
 by_cases hn : n = 0
 case neg =>
  have qn : (n == 0) = false := by simpa using hn
  rw [decide_eq_false hn]
  go_enter Tryz.func37, Tryz.ntmps37
  go_wp2
  go_ret
  exact ⟨rfl, (by repeat(first|exact Gr.r _|refine Gr.a ?_|refine Gr.d ?_|refine Gr.t ?_ (by assumption)))⟩
 subst hn
 rw [decide_eq_true rfl]
 cases bl with
 | false =>
  go_enter Tryz.func37, Tryz.ntmps37
  go_wp2
  go_ret
  exact ⟨rfl, (by repeat(first|exact Gr.r _|refine Gr.a ?_|refine Gr.d ?_|refine Gr.t ?_ (by assumption)))⟩
 | true =>
  by_cases hs : s = 0
  case neg =>
   have qs : (s == 0) = false := by simpa using hs
   rw [decide_eq_false hs]
   go_enter Tryz.func37, Tryz.ntmps37
   go_wp2
   go_ret
   exact ⟨rfl, (by repeat(first|exact Gr.r _|refine Gr.a ?_|refine Gr.d ?_|refine Gr.t ?_ (by assumption)))⟩
  subst hs
  rw [decide_eq_true rfl]
  by_cases hy : y = 0
  case neg =>
   have qy : (y == 0) = false := by simpa using hy
   rw [decide_eq_false hy]
   go_enter Tryz.func37, Tryz.ntmps37
   go_wp2
   go_ret
   exact ⟨rfl, (by repeat(first|exact Gr.r _|refine Gr.a ?_|refine Gr.d ?_|refine Gr.t ?_ (by assumption)))⟩
  subst hy
  rw [decide_eq_true rfl]
  go_enter Tryz.func37, Tryz.ntmps37
  go_wp2_with fail
  refine (HB.out _).mono ?_
  rintro e4 w1 ⟨rfl, hg1⟩
  go_wp2
  go_ret
  exact ⟨rfl, (by repeat(first|exact Gr.r _|refine Gr.a ?_|refine Gr.d ?_|refine Gr.t ?_ (by assumption)))⟩
end Go.Proofs.YthaadiclopoamaaGreatDoor
/- the document's Check. -/
set_option maxRecDepth 100000
set_option maxHeartbeats 8000000
namespace Go.Proofs.YthaadiclopoamaaGreatDoor
open Go.RowKit

def orgs (L : List (Int × Int)) : List Int := L.map (·.2)
theorem orgs_get (L : List (Int × Int)) (i j : Nat) (hj : j < i) (hi : i <= L.length) (o : Int) : ((orgs (L.take i)).drop j).contains o = (o == (L[j]'(by omega)).2 || ((orgs (L.take i)).drop (j + 1)).contains o) := by
 have hl : j < (orgs (L.take i)).length := by simp [orgs]; omega
 rw [List.drop_eq_getElem_cons hl]
 have e : (orgs (L.take i))[j] = (L[j]'(by omega)).2 := by simp [orgs]
 rw [e]; rfl

theorem refCheck_any (r n : Int) (L : List (Int × Int)) (ad : Option Addr) (cap : Nat) (w : World) (hL : HopsAt w ad L) (hn : L.length <= 9223372036854775807) :
  Calls Tryz.prog 29 #[.agg #[.int .i64 r, .int .i64 n, .slice ad L.length cap]] w fun e w' => e = .returned (.int .i64 (errB (Idn.mayB r n L))) /\ Gr w w' := by
 have HM := Idn.may_hops r n L
 by_cases hc : 1 <= n /\ n <= 999999 /\ L.length <= 4 /\ 0 <= r /\ r < 16
 ·obtain ⟨h1, h2, h3, h4, h5⟩ := hc
  have HM : Hid (Idn.mayB r n L = Idn.hopsB r [] L) := by
   show _ = _
   rw [HM]; simp [h1, h2, h3, h4, h5]
  rename_i HM0
  clear HM0
  have HL : Hid (HopsAt w ad L) := hL
  have h3' : (L.length : Int) <= 4 := by omega
  clear hL
  go_enter Tryz.func29, Tryz.ntmps29
  go_wp2
  go_loopw [3] (fun i wr => ∃ k : Nat, k <= L.length /\ i = .int .i64 k /\ Idn.hopsB r [] L = Idn.hopsB r (orgs (L.take k)) (L.drop k) /\ Below (w.heap.size + 1) (w.alloc (.cells #[.int .i64 r, .int .i64 n, .slice ad L.length cap] 24)) wr) (fun i _ => L.length - (intOf i).toNat)
  case atStart => exact ⟨0, by omega, rfl, rfl, Below.refl _ _⟩
  case round =>
   obtain ⟨w0, rfl⟩ : ∃ x, x = wr := ⟨wr, rfl⟩
   obtain ⟨k, hk, rfl, hs, hb⟩ := hrel
   have hbs : w.heap.size + 1 <= w0.heap.size := by have := hb.size; simpa using this
   have HS : Hid (Idn.hopsB r [] L = Idn.hopsB r (orgs (L.take k)) (L.drop k)) := hs
   have hgr : Gr w w0 := ⟨((Below.refl _ _).alloc (Nat.le_refl _) _).trans (hb.mono (by omega))⟩
   have q0 : w0.cell? ⟨w.heap.size, 0, none⟩ = some (.int .i64 r) := (hb.cell (p := ⟨w.heap.size, 0, none⟩) (by simp)).trans (by simp)
   have q2 : w0.cell? ⟨w.heap.size, 2, none⟩ = some (.slice ad L.length cap) := (hb.cell (p := ⟨w.heap.size, 2, none⟩) (by simp)).trans (by simp)
   clear hs
   by_cases hlt : k < L.length
   ·obtain ⟨b, off, rfl, hbl, hc, hd⟩ := HL.out k hlt
    have hc' := hgr.keep hc
    have hd' := hgr.keep hd
    have HS2 : Hid (Idn.hopsB r [] L = (decide (0 <= L[k].1) && decide (L[k].1 < 8) && decide (0 <= L[k].2) && decide (L[k].2 < 16) && !(L[k].2 == r) && !((orgs (L.take k)).contains L[k].2) && Idn.hopsB r (orgs (L.take (k + 1))) (L.drop (k + 1)))) := by
     show _ = _
     rw [HS.out, List.drop_eq_getElem_cons hlt, Idn.hopsB]
     have : orgs (L.take (k + 1)) = orgs (L.take k) ++ [L[k].2] := by unfold orgs; rw [List.take_succ_eq_append_getElem hlt, List.map_append]; rfl
     rw [this]
    have HALL : Hid (∀ j (h : j < L.length), ∀ w', Gr w w' -> w'.cell? ⟨b, off + j * 2 + 1, none⟩ = some (.int .i64 L[j].2)) := by
     intro j hj w' g
     obtain ⟨b', off', e, _, _, h⟩ := HL.out j hj
     simp at e
     obtain ⟨rfl, rfl⟩ := e
     exact g.keep h
    obtain ⟨⟨p1, p2⟩, hh⟩ : ∃ h, L[k] = h := ⟨_, rfl⟩
    rw [hh] at hc' hd' HS2
    clear hc hd hh HL HS
    by_cases gc : 0 <= p1 /\ p1 < 8 /\ 0 <= p2 /\ p2 < 16 /\ p2 ≠ r
    ·obtain ⟨g0, g1, g2, g3, g4⟩ := gc
     have HS3 : Hid (Idn.hopsB r [] L = (!((orgs (L.take k)).contains p2) && Idn.hopsB r (orgs (L.take (k + 1))) (L.drop (k + 1)))) := by
      show _ = _
      rw [HS2.out, show (p2 == r) = false by simpa using g4]; simp [g0, g1, g2, g3]
     have g4' : (p2 == r) = false := by simpa using g4
     clear HS2 g4
     have hwl : w.heap.size < w0.heap.size := by omega
     go_wp2
     go_loopw [5] (fun j wr => ∃ m : Nat, m <= k /\ j = .int .i64 m /\ (orgs (L.take k)).contains p2 = ((orgs (L.take k)).drop m).contains p2 /\ Below (w0.heap.size + 1) (w0.alloc (.cells #[.int .i64 p1, .int .i64 p2] 85)) wr) (fun j _ => k - (intOf j).toNat)
     case atStart => exact ⟨0, by omega, rfl, rfl, Below.refl _ _⟩
     case round =>
      obtain ⟨m, hm, rfl, hcn, hb2⟩ := hrel
      have HCN : Hid ((orgs (L.take k)).contains p2 = ((orgs (L.take k)).drop m).contains p2) := hcn
      have hbs2 : w0.heap.size + 1 <= wr.heap.size := by have := hb2.size; simpa using this
      have hgr2 : Gr w0 wr := ⟨((Below.refl _ _).alloc (Nat.le_refl _) _).trans (hb2.mono (by omega))⟩
      have s0 := hgr2.keep q0
      have s2 := hgr2.keep q2
      have t1 : wr.cell? ⟨w0.heap.size, 1, none⟩ = some (.int .i64 p2) := (hb2.cell (p := ⟨w0.heap.size, 1, none⟩) (by simp)).trans (by simp)
      have hbx : Below (w.heap.size + 1) (w.alloc (.cells #[.int .i64 r, .int .i64 n, .slice (some ⟨b, off, none⟩) L.length cap] 24)) wr := (hb.alloc hbs _).trans (hb2.mono (by omega))
      have HBX : Hid (Below (w.heap.size + 1) (w.alloc (.cells #[.int .i64 r, .int .i64 n, .slice (some ⟨b, off, none⟩) L.length cap] 24)) wr) := hbx
      have HGR : Hid (Gr w wr) := hgr.trans hgr2
      clear hcn q0 q2 hc' hd' hbx hb
      by_cases hmk : m < k
      ·have hx := HALL.out m (by omega) wr HGR.out
       have hml : m < L.length := by omega
       have HCN2 : Hid ((orgs (L.take k)).contains p2 = (p2 == (L[m]'hml).2 || ((orgs (L.take k)).drop (m + 1)).contains p2)) := by
        show _ = _
        rw [HCN.out, orgs_get L k m hmk (by omega)]
       obtain ⟨o, ho⟩ : ∃ o, (L[m]'hml).2 = o := ⟨_, rfl⟩
       rw [ho] at hx HCN2
       have hm1 : (m : Int) < L.length := by omega
       clear ho HALL hgr hgr2
       by_cases he : o = p2
       ·subst he
        have HF : Hid (Idn.mayB r n L = false) := by
         show _ = _
         rw [HM.out, HS3.out, HCN2.out]; simp
        clear HS3 HCN HCN2 HM
        go_wp2
        go_region
        go_wp2
        go_ret
        exact ⟨by rw [HF.out]; rfl, HGR.out.drew⟩
       ·have he' : (o == p2) = false := by simpa using he
        have HF : Hid ((orgs (L.take k)).contains p2 = ((orgs (L.take k)).drop (m + 1)).contains p2) := by
         show _ = _
         rw [HCN2.out, show (p2 == o) = false by simpa using fun h => he h.symm]; rfl
        clear HCN HCN2 he
        go_wp2
        go_region
        go_wp2
        go_roundw
        case rel => exact ⟨m + 1, by omega, by go_num, HF.out, hb2.drew⟩
        case measure => simp [intOf]; omega
      ·have hmk' : m = k := by omega
       subst hmk'
       have HF : Hid (Idn.hopsB r [] L = Idn.hopsB r (orgs (L.take (m + 1))) (L.drop (m + 1))) := by
        show _ = _
        rw [HS3.out, HCN.out]
        simp [orgs]
       clear HALL HS3 HCN
       go_wp2
       go_roundw
       case rel => exact ⟨m + 1, by omega, by go_num, HF.out, HBX.out⟩
       case measure => simp [intOf]; omega
    ·have HF : Hid (Idn.mayB r n L = false) := by
      show _ = _
      rw [HM.out, HS2.out]
      cases h : (decide (0 <= p1) && decide (p1 < 8) && decide (0 <= p2) && decide (p2 < 16) && !p2 == r) with
      | false => simp
      | true => exact absurd (by simpa [and_assoc] using h) gc
     have hwl : w.heap.size < w0.heap.size := by omega
     have hcb : ((((p1 < 0 ∨ 7 < p1) ∨ p2 < 0) ∨ 15 < p2) ∨ (p2 == r) = true) := by
      by_cases e : p2 = r
      ·exact Or.inr (by simpa using e)
      ·exact Or.inl (by omega)
     have HCB : Hid ((((p1 < 0 ∨ 7 < p1) ∨ p2 < 0) ∨ 15 < p2) ∨ (p2 == r) = true) := hcb
     clear HS2 gc HALL hcb
     go_wp2
     all_goals first
      | (go_ret; exact ⟨by rw [HF.out]; rfl, hgr.alloc⟩)
      | (exfalso; rename_i hx; rcases HCB.out with ((((h | h) | h) | h) | h) <;> first | omega | (rw [h] at hx; simp at hx))
   ·have HF : Hid (Idn.mayB r n L = true) := by
     show _ = _
     rw [HM.out, HS.out, List.drop_eq_nil_of_le (by omega)]; rfl
    clear HS HL
    go_wp2
    go_ret
    exact ⟨by rw [HF.out]; rfl, hgr⟩
 ·have HF : Hid (Idn.mayB r n L = false) := by
   show _ = _
   rw [HM]
   cases h : (decide (1 <= n) && decide (n <= 999999) && decide (L.length <= 4) && decide (0 <= r) && decide (r < 16)) with
   | false => simp
   | true => exact absurd (by simpa [and_assoc] using h) hc
  have hcb : ((((n < 1 ∨ 999999 < n) ∨ (4 : Int) < L.length) ∨ r < 0) ∨ 15 < r) := by omega
  clear hc HM hL
  go_enter Tryz.func29, Tryz.ntmps29
  go_wp2
  all_goals first
   | (go_ret; exact ⟨by rw [HF.out]; rfl, (Gr.refl _).alloc⟩)
   | (exfalso; omega)
end Go.Proofs.YthaadiclopoamaaGreatDoor
/- Plain mathematics of the document's reading of ids: runs of digits, and what they say. -/
set_option maxRecDepth 100000
set_option maxHeartbeats 8000000
namespace Go.Proofs.YthaadiclopoamaaGreatDoor

def isD (b : UInt8) : Bool := decide (48 <= b.toNat) && decide (b.toNat <= 57)
def numS (l : List UInt8) (k : Nat) : List UInt8 := ((l.drop k).take 6).takeWhile isD
def numV (ds : List UInt8) : Nat := ds.foldl (fun n b => 10 * n + (b.toNat - 48)) 0
def nV (l : List UInt8) (k : Nat) : Int := (numV (numS l k) : Nat)
def nT (l : List UInt8) (k : Nat) : Nat := k + (numS l k).length
def nB (l : List UInt8) (k : Nat) : Bool := decide (0 < (numS l k).length)

theorem numV_snoc (ds : List UInt8) (b : UInt8) : numV (ds ++ [b]) = 10 * numV ds + (b.toNat - 48) := by
 unfold numV; rw [List.foldl_append]; rfl
theorem takeWhile_len {α : Type} (p : α -> Bool) (l : List α) : (l.takeWhile p).length <= l.length := (List.takeWhile_sublist p).length_le
theorem nT_le (l : List UInt8) (k : Nat) (h : k <= l.length) : nT l k <= l.length := by
 unfold nT numS
 have h1 := takeWhile_len isD ((l.drop k).take 6)
 rw [List.length_take, List.length_drop] at h1
 omega
theorem while_take (l : List UInt8) : ∀ k, k <= l.length -> (∀ b ∈ l.take k, isD b = true) -> (∀ h : k < l.length, isD l[k] = false) -> l.takeWhile isD = l.take k := by
 induction l with
 | nil => intro k _ _ _; simp
 | cons a t ih =>
  intro k hk h1 h2
  cases k with
  | zero =>
   have := h2 (by simp)
   rw [List.takeWhile_cons]
   simp at this
   rw [this]; simp
  | succ k =>
   rw [List.take_succ_cons] at h1 ⊢
   rw [List.takeWhile_cons, h1 a List.mem_cons_self, if_pos rfl, ih k (by simpa using hk) (fun b hb => h1 b (List.mem_cons_of_mem _ hb)) (fun h => by have := h2 (by simpa using h); simpa using this)]
theorem isD_dig (n : Nat) : ∀ b ∈ Lib.decDigits n, isD b = true := fun b hb => by
 have := dig_mem n b hb
 simp [isD, this]
theorem numV_dig (n : Nat) : numV (Lib.decDigits n) = n := by
 induction n using Nat.strongRecOn with
 | _ n ih =>
  rw [Lib.decDigits]
  split
  ·next h => unfold numV; simp; omega
  ·next h =>
   rw [numV_snoc, ih (n / 10) (by omega)]
   simp; omega
/- a number that stands in a text, between what is none of its digits -/
theorem numS_at (A : List UInt8) (x : Nat) (R : List UInt8) (hx : x < 1000000) (hR : ∀ h : 0 < R.length, isD R[0] = false) : numS (A ++ (Lib.decDigits x ++ R)) A.length = Lib.decDigits x := by
 unfold numS
 rw [List.drop_left]
 have hl : (Lib.decDigits x).length <= 6 := digs_len x 5 (by omega)
 have e : (Lib.decDigits x ++ R).take 6 = Lib.decDigits x ++ R.take (6 - (Lib.decDigits x).length) := by
  rw [List.take_append, List.take_of_length_le hl]
 rw [e]
 have := while_take (Lib.decDigits x ++ R.take (6 - (Lib.decDigits x).length)) (Lib.decDigits x).length (by simp) (by rw [List.take_left]; exact isD_dig x) (by
  intro h
  rw [List.getElem_append_right (by omega)]
  simp only [Nat.sub_self]
  rw [List.getElem_take]
  exact hR (by rw [List.length_append, List.length_take] at h; omega))
 rw [this, List.take_left]
theorem num_at (A : List UInt8) (x : Nat) (R l : List UInt8) (hl : l = A ++ (Lib.decDigits x ++ R)) (hx : x < 1000000) (hR : ∀ h : 0 < R.length, isD R[0] = false) (k : Nat) (hk : k = A.length) :
  nV l k = x /\ nT l k = (A ++ Lib.decDigits x).length /\ nB l k = true := by
 subst hl hk
 unfold nV nT nB
 rw [numS_at A x R hx hR, numV_dig]
 refine ⟨rfl, by simp, ?_⟩
 have := dig_ne x
 exact decide_eq_true (List.length_pos_iff.2 this)

def loopR (l : List UInt8) : Nat -> Nat -> Bool -> List (Int × Int) -> Option (List (Int × Int) × Bool)
 | 0, _, ok, hs => some (hs, ok)
 | f + 1, k, ok, hs =>
  if ok = true /\ k < l.length then
   if nB l (k + 1) = false ∨ nT l (k + 1) = l.length then none
   else loopR l f (nT l (nT l (k + 1) + 1)) (nB l (nT l (k + 1) + 1)) (hs ++ [(nV l (k + 1), nV l (nT l (k + 1) + 1))])
  else some (hs, ok)
def refI (l : List UInt8) : Option (Int × Int × List (Int × Int) × Bool) :=
 if nB l 0 = false ∨ nT l 0 = l.length then none
 else match loopR l 5 (nT l (nT l 0 + 1)) (nB l (nT l 0 + 1)) [] with
  | none => none
  | some (hs, ok) => some (nV l 0, nV l (nT l 0 + 1), hs, ok)
def goodB (l : List UInt8) (x : Int × Int × List (Int × Int) × Bool) : Bool := x.2.2.2 && Idn.mayB x.1 x.2.1 x.2.2.1 && decide (Idn.showT x.1 x.2.1 x.2.2.1 = l)

theorem hop_sep (t : List (Int × Int)) : ∀ h : 0 < (t.flatMap Idn.hopT).length, isD (t.flatMap Idn.hopT)[0] = false := by
 intro h
 cases t with
 | nil => simp at h
 | cons x t => simp [Idn.hopT, List.flatMap_cons, isD]
theorem loop_show (l : List UInt8) : ∀ (Ls : List (Int × Int)) (A : List UInt8) (hs : List (Int × Int)) (f : Nat), l = A ++ Ls.flatMap Idn.hopT -> (∀ x ∈ Ls, 0 <= x.1 /\ x.1 < 8 /\ 0 <= x.2 /\ x.2 < 16) -> Ls.length < f ->
  loopR l f A.length true hs = some (hs ++ Ls, true) := by
 intro Ls
 induction Ls with
 | nil =>
  intro A hs f hl _ hf
  cases f with
  | zero => omega
  | succ f =>
   rw [loopR, if_neg (by rw [hl]; simp)]; simp
 | cons x t ih =>
  intro A hs f hl hx hf
  cases f with
  | zero => simp at hf
  | succ f =>
   obtain ⟨h1, h2, h3, h4⟩ := hx x List.mem_cons_self
   have e1 : l = (A ++ [47]) ++ (Lib.decDigits x.1.toNat ++ ([64] ++ Lib.decDigits x.2.toNat ++ t.flatMap Idn.hopT)) := by
    rw [hl, List.flatMap_cons]; simp [Idn.hopT]
   have e2 : l = (A ++ [47] ++ Lib.decDigits x.1.toNat ++ [64]) ++ (Lib.decDigits x.2.toNat ++ t.flatMap Idn.hopT) := by
    rw [hl, List.flatMap_cons]; simp [Idn.hopT]
   obtain ⟨v1, t1, b1⟩ := num_at (A ++ [47]) x.1.toNat _ l e1 (by omega) (by intro _; simp [isD]) (A.length + 1) (by simp)
   obtain ⟨v2, t2, b2⟩ := num_at (A ++ [47] ++ Lib.decDigits x.1.toNat ++ [64]) x.2.toNat _ l e2 (by omega) (hop_sep t) (nT l (A.length + 1) + 1) (by rw [t1]; simp; omega)
   have hlen : A.length < l.length := by rw [e1]; simp
   have hne : nT l (A.length + 1) ≠ l.length := by rw [t1]; intro e; rw [e1] at e; simp at e
   rw [loopR, if_pos ⟨rfl, hlen⟩, if_neg (by rw [b1]; simp [hne]), b2, v1, v2, t2]
   rw [ih (A ++ [47] ++ Lib.decDigits x.1.toNat ++ [64] ++ Lib.decDigits x.2.toNat) (hs ++ [(((x.1.toNat : Nat) : Int), ((x.2.toNat : Nat) : Int))]) f (by rw [e2]; simp) (fun y hy => hx y (List.mem_cons_of_mem _ hy)) (by simpa using hf)]
   rw [show ((x.1.toNat : Nat) : Int) = x.1 by omega, show ((x.2.toNat : Nat) : Int) = x.2 by omega]
   simp
theorem refI_show (r n : Int) (L : List (Int × Int)) (h : Idn.mayB r n L = true) : refI (Idn.showT r n L) = some (r, n, L, true) := by
 obtain ⟨h1, h2, h3, h4, h5, h6⟩ := may_root h
 have e1 : Idn.showT r n L = [] ++ (Lib.decDigits r.toNat ++ ([46] ++ Lib.decDigits n.toNat ++ L.flatMap Idn.hopT)) := by simp [Idn.showT]
 have e2 : Idn.showT r n L = (Lib.decDigits r.toNat ++ [46]) ++ (Lib.decDigits n.toNat ++ L.flatMap Idn.hopT) := by simp [Idn.showT]
 generalize Idn.showT r n L = l at *
 obtain ⟨v1, t1, b1⟩ := num_at [] r.toNat _ l e1 (by omega) (by intro _; simp [isD]) 0 (by simp)
 obtain ⟨v2, t2, b2⟩ := num_at (Lib.decDigits r.toNat ++ [46]) n.toNat _ l e2 (by omega) (hop_sep L) (nT l 0 + 1) (by rw [t1]; simp)
 have hne : nT l 0 ≠ l.length := by rw [t1]; intro e; rw [e1] at e; simp at e
 unfold refI
 rw [if_neg (by rw [b1]; simp [hne]), b2, v1, v2, t2, loop_show l L _ [] 5 (by rw [e2]; simp) h6 (by omega)]
 simp only [List.nil_append]
 rw [show ((r.toNat : Nat) : Int) = r by omega, show ((n.toNat : Nat) : Int) = n by omega]
def refP (l : List UInt8) : Option (Int × Int × List (Int × Int)) := match refI l with
 | none => none
 | some x => if goodB l x = true then some (x.1, x.2.1, x.2.2.1) else none
theorem ref_par (l : List UInt8) : refP l = if parB l = true then some ((readR l).1, (readR l).2, readL l) else none := by
 by_cases hp : parB l = true
 ·rw [if_pos hp]
  have h := hp
  unfold parB at h
  simp only [Bool.and_eq_true, decide_eq_true_eq] at h
  have hi := refI_show _ _ _ h.1
  rw [h.2] at hi
  unfold refP
  rw [hi]
  have hg : goodB l ((readR l).1, (readR l).2, readL l, true) = true := by
   unfold goodB
   simp only [Bool.true_and, Bool.and_eq_true, decide_eq_true_eq]
   exact h
  simp only [hg, if_true]
 ·rw [if_neg hp]
  unfold refP
  cases hi : refI l with
  | none => rfl
  | some x =>
   have hg : goodB l x = false := by
    cases hg : goodB l x with
    | false => rfl
    | true =>
     unfold goodB at hg
     simp only [Bool.and_eq_true, decide_eq_true_eq] at hg
     have := par_show _ _ _ hg.1.2
     rw [hg.2] at this
     exact absurd this hp
   simp [hg]
end Go.Proofs.YthaadiclopoamaaGreatDoor
/- The document's digits, numbers, and texts of ids. -/
set_option maxRecDepth 100000
set_option maxHeartbeats 8000000
namespace Go.Proofs.YthaadiclopoamaaGreatDoor
open Go.RowKit

theorem dgs_one (n : Nat) (h : n < 10) : Lib.decDigits n = [UInt8.ofNat (48 + n)] := by rw [Lib.decDigits, dif_pos h]
theorem dgs_snoc (n : Nat) (h : ¬ n < 10) : Lib.decDigits n = Lib.decDigits (n / 10) ++ Lib.decDigits (n % 10) := by
 rw [Lib.decDigits, dif_neg h, dgs_one (n % 10) (by omega)]

theorem digit_any (n : Nat) (w : World) (h : n < 10) : Calls Tryz.prog 26 #[.int .i64 n] w fun e w' => e = .returned (.string ⟨(Lib.decDigits n).toArray⟩) /\ w' = w := by
 have HD : Hid (Lib.decDigits n = [UInt8.ofNat (48 + n)]) := dgs_one n h
 rcases (by omega : n = 0 ∨ n = 1 ∨ n = 2 ∨ n = 3 ∨ n = 4 ∨ n = 5 ∨ n = 6 ∨ n = 7 ∨ n = 8 ∨ n = 9) with rfl | rfl | rfl | rfl | rfl | rfl | rfl | rfl | rfl | rfl
 all_goals
  go_enter Tryz.func26, Tryz.ntmps26
  go_wp2
  go_ret
  exact ⟨by rw [HD.out]; rfl, rfl⟩

theorem digits_any (n : Nat) (w : World) (h : n <= 999999999) : Calls Tryz.prog 26 #[.int .i64 n] w fun e w' => e = .returned (.string ⟨(Lib.decDigits n).toArray⟩) /\ w' = w := by
 induction n using Nat.strongRecOn with
 | ind n ih =>
  by_cases h9 : n < 10
  ·exact digit_any n w h9
  ·have H1 : Hid (Calls Tryz.prog 26 #[.int .i64 ((n / 10 : Nat) : Int)] w fun e w' => e = .returned (.string ⟨(Lib.decDigits (n / 10)).toArray⟩) /\ w' = w) := ih (n / 10) (by omega) (by omega)
   have H2 : Hid (Calls Tryz.prog 26 #[.int .i64 ((n % 10 : Nat) : Int)] w fun e w' => e = .returned (.string ⟨(Lib.decDigits (n % 10)).toArray⟩) /\ w' = w) := digit_any (n % 10) w (by omega)
   have hl := digs_len (n / 10) 19 (by omega)
   have hl2 := digs_len (n % 10) 0 (by omega)
   have ha := add_lists (Lib.decDigits (n / 10)) (Lib.decDigits (n % 10)) (by omega)
   have HD : Hid (Lib.decDigits n = Lib.decDigits (n / 10) ++ Lib.decDigits (n % 10)) := dgs_snoc n h9
   have e1 : ((n / 10 : Nat) : Int) = (n : Int) / 10 := by omega
   have e2 : ((n % 10 : Nat) : Int) = (n : Int) % 10 := by omega
   rw [e1] at H1
   rw [e2] at H2
   have h9' : ¬ ((n : Int) < 10) := by omega
   generalize Lib.decDigits (n / 10) ++ Lib.decDigits (n % 10) = t2 at *
   generalize Lib.decDigits (n / 10) = t0 at *
   generalize Lib.decDigits (n % 10) = t1 at *
   clear ih hl hl2 e1 e2
   go_enter Tryz.func26, Tryz.ntmps26
   go_wp2_with fail
   refine H1.out.mono ?_
   rintro e w1 ⟨rfl, hw1⟩; obtain rfl := hw1.symm
   go_wp2_with fail
   refine H2.out.mono ?_
   rintro e w1 ⟨rfl, hw1⟩; obtain rfl := hw1.symm
   go_wp2
   go_ret
   exact ⟨by rw [HD.out]; rfl, rfl⟩

theorem numV_lt (ds : List UInt8) (h : ∀ b ∈ ds, isD b = true) : numV ds < 10 ^ ds.length := by
 have key : ∀ k, k <= ds.length -> numV (ds.take k) < 10 ^ k := by
  intro k
  induction k with
  | zero => intro _; simp [numV]
  | succ k ih =>
   intro hk
   have := ih (by omega)
   have hd := h (ds[k]'(by omega)) (List.getElem_mem _)
   simp only [isD, Bool.and_eq_true, decide_eq_true_eq] at hd
   rw [List.take_succ_eq_append_getElem (by omega), numV_snoc, Nat.pow_succ]
   omega
 have := key ds.length (Nat.le_refl _)
 rwa [List.take_length] at this

theorem number_read (s : ByteArray) (k : Nat) (w : World) (hs : s.size <= 140737488355328) (hk : k <= s.size) :
  Calls Tryz.prog 98 #[.string s, .int .i64 k] w fun e w' => e = .returned (.tuple #[.int .i64 (nV s.data.toList k), .int .i64 (nT s.data.toList k : Nat), .bool (nB s.data.toList k)]) /\ w' = w := by
 have hl : s.data.toList.length = s.size := by simp
 go_enter Tryz.func98, Tryz.ntmps98
 go_wp2
 go_loop [7, 8] (fun n i => ∃ j : Nat, j <= 6 /\ k + j <= s.size /\ i = .int .i64 ((k + j : Nat) : Int) /\ n = .int .i64 ((numV ((s.data.toList.drop k).take j) : Nat) : Int) /\ (∀ b ∈ (s.data.toList.drop k).take j, isD b = true)) (fun _ i => s.size - (intOf i).toNat)
 case atStart => exact ⟨0, by omega, by omega, rfl, rfl, by simp⟩
 case round =>
  obtain ⟨j, hj6, hjs, rfl, rfl, hall⟩ := hrel
  have HALL : Hid (∀ b ∈ (s.data.toList.drop k).take j, isD b = true) := hall
  have hlen : ((s.data.toList.drop k).take j).length = j := by rw [List.length_take, List.length_drop, hl]; omega
  have hbd := numV_lt _ hall
  rw [hlen] at hbd
  clear hall
  have HEND : Hid ((∀ h : j < ((s.data.toList.drop k).take 6).length, isD ((s.data.toList.drop k).take 6)[j] = false) -> nV s.data.toList k = ((numV ((s.data.toList.drop k).take j) : Nat) : Int) /\ nT s.data.toList k = k + j /\ nB s.data.toList k = decide (0 < j)) := by
   intro hstop
   have e : numS s.data.toList k = (s.data.toList.drop k).take j := by
    have hm : ((s.data.toList.drop k).take 6).take j = (s.data.toList.drop k).take j := by rw [List.take_take, Nat.min_eq_left hj6]
    unfold numS
    rw [while_take _ j (by rw [List.length_take, List.length_drop, hl]; omega) (by rw [hm]; exact HALL.out) hstop, hm]
   unfold nV nT nB
   rw [e, hlen]
   exact ⟨rfl, rfl, rfl⟩
  by_cases hlt : k + j < s.size
  ·have hlti : ((k + j : Nat) : Int) < (s.size : Int) := by omega
   have h8 : (s[k + j]'hlt).toNat < 256 := (s[k + j]'hlt).toNat_lt
   have hget : ∀ h : j < ((s.data.toList.drop k).take 6).length, ((s.data.toList.drop k).take 6)[j] = s[k + j]'hlt := by
    intro h
    rw [List.getElem_take, List.getElem_drop]; rfl
   by_cases h6 : j < 6
   ·have h6i : ((k + j : Nat) : Int) < (k : Int) + 6 := by omega
    have hpow : 10 ^ j <= 10 ^ 5 := Nat.pow_le_pow_right (by omega) (by omega)
    have hv5 : numV ((s.data.toList.drop k).take j) < 100000 := by omega
    by_cases hd : isD (s[k + j]'hlt) = true
    ·have hd' := hd
     simp only [isD, Bool.and_eq_true, decide_eq_true_eq] at hd'
     have HN : Hid (((numV ((s.data.toList.drop k).take (j + 1)) : Nat) : Int) = 10 * ((numV ((s.data.toList.drop k).take j) : Nat) : Int) + (((s[k + j]'hlt).toNat : Int) - 48)) := by
      show _ = _
      rw [List.take_succ_eq_append_getElem (by rw [List.length_drop, hl]; omega), numV_snoc, List.getElem_drop]
      have e3 : (s.data.toList[k + j]'(by rw [hl]; exact hlt)) = s[k + j]'hlt := rfl
      rw [e3]; omega
     have HA : Hid (∀ b ∈ (s.data.toList.drop k).take (j + 1), isD b = true) := by
      intro b hb
      rw [List.take_succ_eq_append_getElem (by rw [List.length_drop, hl]; omega)] at hb
      rcases List.mem_append.1 hb with hb | hb
      ·exact HALL.out b hb
      ·rw [List.mem_singleton, List.getElem_drop] at hb
       rw [hb]; exact hd
     obtain ⟨hd1, hd2⟩ := hd'
     have hd1' : (48 : Int) <= ((s[k + j]'hlt).toNat : Int) := by omega
     have hd2' : ((s[k + j]'hlt).toNat : Int) <= 57 := by omega
     generalize numV ((s.data.toList.drop k).take j) = v at *
     clear hbd hpow hget hd HEND
     go_wp2
     go_round
     case rel => exact ⟨j + 1, by omega, by omega, by congr 1, by rw [HN.out], HA.out⟩
     case measure => simp [intOf]; omega
    ·have hdf : isD (s[k + j]'hlt) = false := by simpa using hd
     have HE : Hid (nV s.data.toList k = ((numV ((s.data.toList.drop k).take j) : Nat) : Int) /\ nT s.data.toList k = k + j /\ nB s.data.toList k = decide (0 < j)) := HEND.out (fun h => by rw [hget h]; exact hdf)
     simp only [isD, Bool.and_eq_false_iff, decide_eq_false_iff_not] at hdf
     generalize numV ((s.data.toList.drop k).take j) = v at *
     clear hbd hpow hget hd HEND
     by_cases g1 : (48 : Int) <= ((s[k + j]'hlt).toNat : Int)
     ·have g2 : ¬ (((s[k + j]'hlt).toNat : Int) <= 57) := by omega
      clear hdf
      go_wp2
      go_ret3
      exact ⟨by rw [HE.out.1, HE.out.2.1, HE.out.2.2]; simp; omega, rfl⟩
     ·clear hdf
      go_wp2
      go_ret3
      exact ⟨by rw [HE.out.1, HE.out.2.1, HE.out.2.2]; simp; omega, rfl⟩
   ·have HE : Hid (nV s.data.toList k = ((numV ((s.data.toList.drop k).take j) : Nat) : Int) /\ nT s.data.toList k = k + j /\ nB s.data.toList k = decide (0 < j)) := HEND.out (fun h => by rw [List.length_take] at h; omega)
    have h6i : ¬ (((k + j : Nat) : Int) < (k : Int) + 6) := by omega
    generalize numV ((s.data.toList.drop k).take j) = v at *
    clear hbd hget HEND
    go_wp2
    go_ret3
    exact ⟨by rw [HE.out.1, HE.out.2.1, HE.out.2.2]; simp; omega, rfl⟩
  ·have HE : Hid (nV s.data.toList k = ((numV ((s.data.toList.drop k).take j) : Nat) : Int) /\ nT s.data.toList k = k + j /\ nB s.data.toList k = decide (0 < j)) := HEND.out (fun h => by rw [List.length_take, List.length_drop, hl] at h; omega)
   have hlti : ¬ (((k + j : Nat) : Int) < (s.size : Int)) := by omega
   generalize numV ((s.data.toList.drop k).take j) = v at *
   clear hbd HEND
   go_wp2
   go_ret3
   exact ⟨by rw [HE.out.1, HE.out.2.1, HE.out.2.2]; simp; omega, rfl⟩
end Go.Proofs.YthaadiclopoamaaGreatDoor
/- The document's sums and products. -/
set_option maxRecDepth 100000
set_option maxHeartbeats 8000000
namespace Go.Proofs.YthaadiclopoamaaGreatDoor
open Go.RowKit

theorem refFits_any (a : Int) (w : World) :
  Calls Tryz.prog 39 #[.int .i64 a] w fun e w' => e = .returned (.bool (decide (0 <= a) && decide (a <= 1000000000000000))) /\ w' = w := by
 by_cases h0 : 0 <= a
 ·by_cases h1 : a <= 1000000000000000
  ·have HF : Hid ((decide (0 <= a) && decide (a <= 1000000000000000)) = true) := by show _ = _; simp [h0, h1]
   rw [HF.out]
   go_enter Tryz.func39, Tryz.ntmps39
   go_wp2
   go_ret
   exact ⟨rfl, rfl⟩
  ·have HF : Hid ((decide (0 <= a) && decide (a <= 1000000000000000)) = false) := by show _ = _; simp [h1]
   rw [HF.out]
   go_enter Tryz.func39, Tryz.ntmps39
   go_wp2
   go_ret
   exact ⟨rfl, rfl⟩
 ·have HF : Hid ((decide (0 <= a) && decide (a <= 1000000000000000)) = false) := by show _ = _; simp [h0]
  rw [HF.out]
  go_enter Tryz.func39, Tryz.ntmps39
  go_wp2
  go_ret
  exact ⟨rfl, rfl⟩

end Go.Proofs.YthaadiclopoamaaGreatDoor
