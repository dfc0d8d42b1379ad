/- For every room, first body and acts the law WalCrash answers true: wherever the power goes, again and again, also within openings, the log opens again, with the bodies that were answered, and perhaps the one that was not, or, where a new file was not answered, perhaps its body alone. -/
import Derived.Test.YtojmhhmpmpbpfaaGreatDoorGA
import Derived.Test.YtojmhhmpmpbpfaaGreatDoorGBB
import Derived.Test.YtojmhhmpmpbpfaaGreatDoorWtA
import Derived.Test.YtojmhhmpmpbpfaaGreatDoorWkA
import Derived.Test.YtojmhhmpmpbpfaaGreatDoorWkB
import Derived.Test.YtojmhhmpmpbpfaaGreatDoorWkC
import Derived.Test.YtojmhhmpmpbpfaaGreatDoorGBF
import Derived.Test.YtojmhhmpmpbpfaaGreatDoorOpnW
import Derived.Deep.CutRange
import Derived.Deep.CutBlock
import Derived.SevenTiedAt
namespace Go.Proofs.YtojmhhmpmpbpfaaGreatDoor
open Go.ChangeShapes Go.WideShapes Go.ChangeAt Go.RowKit
open Go.ChangeMaps (open_string shut_string)
open Dk (Fl Fo St Ok used)
variable {u w w' w2 : World} {b m g r q n : Nat} {s : St} {l : Wl.Lg} {h : Wl.Bo}

theorem strs_blk {ad : Option Addr} {L : List ByteArray} (h : StrsAt w ad L) (hne : L ≠ []) : ∀ p, ad = some p → p.block < w.heap.size := by
  intro p e
  obtain ⟨x, off, e2, hb, _⟩ := h 0 (by cases L with | nil => exact absurd rfl hne | cons _ _ => simp)
  rw [e] at e2
  cases e2
  exact hb
theorem map_ne (h : Wl.Bo) (hn : h ≠ []) : h.map mkT ≠ [] := by cases h with | nil => exact absurd rfl hn | cons _ _ => simp
theorem bo_len (L : List (List UInt8)) : (L.map mkT).length = L.length := by simp
/- the bodies' row, off the disk and the log -/
structure Hv (w : World) (b m g : Nat) (ad : Option Addr) (h : Wl.Bo) : Prop where
  ro : StrsAt w ad (h.map mkT)
  of : ∀ p, ad = some p → p.block ≠ b ∧ p.block ≠ m ∧ p.block ≠ g
theorem Hv.t3 {ad : Option Addr} (k : Hv w b m g ad h) (t : T3 w w' b m g) : Hv w' b m g ad h := ⟨T3.strs k.ro t k.of, k.of⟩
theorem Hv.td {ad : Option Addr} (k : Hv w b m g ad h) (t : Td w w' b m) : Hv w' b m g ad h := k.t3 (t.t3 g)
theorem Hv.gr {ad : Option Addr} (k : Hv w b m g ad h) (t : Gr w w') : Hv w' b m g ad h := ⟨k.ro.gr t, k.of⟩
/- the lists that may be told, off the disk and the log -/
structure Mo (w : World) (b m g q n : Nat) (M : List Mrow) : Prop where
  at_ : MaAt w q n M
  qo : q ≠ b ∧ q ≠ m ∧ q ≠ g
  ro : ∀ x ∈ M, ∀ p, x.ad = some p → p.block ≠ b ∧ p.block ≠ m ∧ p.block ≠ g
theorem Mo.t3 {M : List Mrow} (k : Mo w b m g q n M) (t : T3 w w' b m g) : Mo w' b m g q n M :=
  ⟨⟨k.at_.len, fun j hj => t.cell k.qo.1 k.qo.2.1 k.qo.2.2 (k.at_.at_ j hj), fun x hx => ⟨T3.strs (k.at_.row x hx).1 t (k.ro x hx), (k.at_.row x hx).2⟩⟩, k.qo, k.ro⟩
theorem Mo.td {M : List Mrow} (k : Mo w b m g q n M) (t : Td w w' b m) : Mo w' b m g q n M := k.t3 (t.t3 g)
theorem Mo.gr {M : List Mrow} (k : Mo w b m g q n M) (t : Gr w w') : Mo w' b m g q n M := ⟨k.at_.gr t, k.qo, k.ro⟩
/- one list -/
theorem mo_one (w : World) (ad : Option Addr) (cap : Nat) (k : Hv w b m g ad h) (hl : h.length ≤ 1000000) (h1 : b < w.heap.size ∧ m < w.heap.size ∧ g < w.heap.size) (x : Nat) (hx : x = w.heap.size) :
    Mo (w.alloc (.cells #[.slice ad h.length cap] 34)) b m g x 1 [⟨ad, cap, h.map mkT⟩] := by
  subst hx
  refine ⟨⟨rfl, ?_, ?_⟩, ⟨by omega, by omega, by omega⟩, ?_⟩
  · intro j hj
    simp at hj
    subst hj
    simp [mrf]
  · intro y hy
    simp at hy
    subst hy
    exact ⟨k.ro.gr (Gr.refl w).alloc, by simpa using hl⟩
  · intro y hy p e
    simp at hy
    subst hy
    exact k.of p e
theorem infoSS : (Tryz.prog.info? 34).map (fun i => (i.zero, i.size, i.bytes)) = some (some (.slice none 0 0), 1, 24) := by kernel_rfl
/- two lists, out of a row that is owned -/
theorem mo_two {base : Nat} {v : Value} {x y : Mrow} (ho : w.ownsRow base 34 1 v 2 [mrf x, mrf y]) (hx : StrsAt w x.ad x.L ∧ x.L.length ≤ 1000000) (hy : StrsAt w y.ad y.L ∧ y.L.length ≤ 1000000) (hb : b < base ∧ m < base ∧ g < base)
    (h1 : ∀ p, x.ad = some p → p.block ≠ b ∧ p.block ≠ m ∧ p.block ≠ g) (h2 : ∀ p, y.ad = some p → p.block ≠ b ∧ p.block ≠ m ∧ p.block ≠ g) :
    ∃ q c, v = .slice (some ⟨q, 0, none⟩) 2 c ∧ Mo w b m g q 2 [x, y] := by
  have hcell := fun g (hg : v.ownBlock = some g) => ho.cells hg
  have hlt := ho.lt
  obtain ⟨_, ⟨rfl, h0⟩ | ⟨q, cap, cur, rfl, _⟩⟩ := ho
  · exact absurd h0 (by decide)
  · have hq := (hlt q rfl).1
    refine ⟨q, cap, rfl, ⟨rfl, ?_, ?_⟩, ⟨by omega, by omega, by omega⟩, ?_⟩
    · intro j hj
      match j, hj with
      | 0, _ =>
        have := hcell q rfl 0 (mrf x) (by simp)
        rw [Addr.add_lit] at this
        simpa using this
      | 1, _ =>
        have := hcell q rfl 1 (mrf y) (by simp)
        rw [Addr.add_lit] at this
        simpa using this
    · intro z hz
      simp at hz
      rcases hz with rfl | rfl
      · exact hx
      · exact hy
    · intro z hz
      simp at hz
      rcases hz with rfl | rfl
      · exact h1
      · exact h2
theorem strs_grown {ad : Option Addr} {L : List ByteArray} {x : Option Nat} (k : StrsAt w ad L) (t : w.grownBy w' x) (hx : ∀ p, ad = some p → some p.block ≠ x) : StrsAt w' ad L := by
  intro j hj
  obtain ⟨y, off, rfl, hb, hc⟩ := k j hj
  exact ⟨y, off, rfl, Nat.lt_of_lt_of_le hb t.size, by rw [World.cell?_of_block (w := w) (t.block y hb (hx _ rfl))]; exact hc⟩
theorem Bx3.grown {x y v : Value} {r : Option Nat} (h : Bx3 w g x y v) (k : w.grownBy w' r) (hne : some g ≠ r) : Bx3 w' g x y v := h.keep (k.block g h.lt hne)
theorem Lv.grown {x : Nat} (k : Lv u w b m g s l) (t : w.grownBy w' (some x)) (hx : x ≠ b ∧ x ≠ m ∧ x ≠ g) (hu : u.heap.size ≤ x) : Lv u w' b m g s l := by
  obtain ⟨A, hA⟩ := k.nw.at_
  refine ⟨⟨⟨A, hA.grown t (fun e => hx.1 (by injection e)) (fun e => hx.2.1 (by injection e))⟩, k.nw.b0, k.nw.m0, k.nw.gr.grown t (fun y hy => ?_)⟩, k.lg.grown t (fun e => hx.2.2 (by injection e with e; exact e.symm)), k.ug⟩
  cases hy
  exact hu
theorem Hv.grown {ad : Option Addr} {x : Nat} (k : Hv w b m g ad h) (t : w.grownBy w' (some x)) (hx : ∀ p, ad = some p → p.block ≠ x) : Hv w' b m g ad h := ⟨strs_grown k.ro t (fun p e e2 => hx p e (by injection e2)), k.of⟩
def mrl (x : Mrow) : List Value := [mrf x]
theorem mrl_len (x : Mrow) : (mrl x).length = 1 := rfl
theorem mrl_one (L : List Mrow) : ∀ u ∈ L.flatMap mrl, u.oneCell' = true := by
  intro u hu
  obtain ⟨x, _, hx⟩ := List.mem_flatMap.1 hu
  simp [mrl, mrf] at hx
  subst hx
  rfl
theorem mrl_lit (w : World) (x : Mrow) (z : Nat) (hz : z = w.heap.size) : RowAt mrl (w.alloc (.cells #[mrf x] 34)) (some ⟨z, 0, none⟩) [x] := by
  subst hz
  intro j u hu
  have : j = 0 ∧ u = mrf x := by
    cases j with
    | zero => simp [mrl] at hu; exact ⟨rfl, hu.symm⟩
    | succ j => simp [mrl] at hu
  obtain ⟨rfl, rfl⟩ := this
  exact ⟨w.heap.size, 0, rfl, by simp, by simp⟩
theorem v_arm (k : Lv u w b m g s l) {z : Int} (h1 : z ≤ 9223372036854775807) {ad : Option Addr} {cap : Nat} {K : List Int} (hl : KAt w ad cap K) :
    Calls Tryz.prog 17 #[ptr b, .int .i64 z, .slice ad K.length cap] w fun e w' => ∃ E, e = .returned (.int .i64 E) ∧ Lv u w' b m g (Dk.armS s z K) l ∧ Td w w' b m := by
  obtain ⟨A, hA⟩ := k.nw.at_
  refine (arm_any hA h1 hl).mono ?_
  rintro e w' ⟨rfl, r⟩
  exact ⟨_, rfl, k.far r, r.2⟩
theorem re_arm (hr : Wl.Re s l h) {z : Int} (h1 : z ≤ 9223372036854775807) (K : List Int) : Wl.Re (Dk.armS s z K) l h := ⟨hr.at_.arm h1 K, hr.z, hr.br, hr.gd⟩
/- behind a call that was not an opening: at rest, or dead -/
def Aft (s : St) (l : Wl.Lg) (h : Wl.Bo) (M : List Mrow) (yk : Int) (k : Nat) : Prop :=
  (Wl.Re s l h ∧ ∃ x ∈ M, x.L = h.map mkT) ∨ (s.dead = true ∧ yk ≠ 2 ∧ ∃ r, Met s r ∧ r.length ≤ k + 2 ∧ ∃ x ∈ M, x.L = r.map mkT)
structure Cr (u w : World) (b m g : Nat) (s : St) (l : Wl.Lg) (h : Wl.Bo) (a4 : Option Addr) (q n : Nat) (M : List Mrow) (p : Nat) (yk : Int) (k : Nat) : Prop where
  lv : Lv u w b m g s l
  hv : Hv w b m g a4 h
  mo : Mo w b m g q n M
  n2 : n ≤ 2
  hl : h.length ≤ k + 2
  c0 : w.cell? ⟨p, 0, none⟩ = some (.int .i64 yk)
  af : Aft s l h M yk k
set_option maxHeartbeats 16000000 in
set_option maxRecDepth 100000 in
theorem walCrash_walk (rm : Int) (d : ByteArray) (T : List Aw) (ad : Option Addr) (cap : Nat) (w : World) (hT : Tab w) (hd : d.size ≤ 140737488355328) (hA : Awts w ad T) :
    Calls Tryz.prog 4 #[.int .i64 rm, .string d, .slice ad T.length cap] w fun e w' => e = .returned (.bool true) ∧ Gr w w' := by
  have HA : Hid (∀ w', Gr w w' → Calls Tryz.prog 5 #[] w' fun e w2 => e = .returned (.bool true) ∧ Gr w' w2) := fun w' g => awake17_any w' (hT.gr g)
  have HF := Lib.hid (few17_any T ad cap w hA)
  have HT := Lib.hid hT
  have HAc := Lib.hid hA
  have hrm := rom_rng rm
  have HR : Hid (∀ w', Calls Tryz.prog 15 #[.int .i64 rm] w' fun e w2 => e = .returned (.int .i64 (romE rm)) ∧ w2 = w') := fun w' => room_any rm w'
  generalize romE rm = R at *
  have HN : Hid (∀ w', Calls Tryz.prog 14 #[.int .i64 R] w' fun e w2 => ∃ b m, e = .returned (.tuple #[ptr b, .int .i64 0]) ∧ New w' w2 b m (Dk.new R [])) := by
    intro w'
    have h1 := new_any R w' (by omega)
    have h2 : mayL R [] = true := by
      unfold mayL
      rw [decide_eq_true (show 0 ≤ R ∧ R ≤ 200000 by omega)]
      rfl
    unfold LdR at h1
    simpa only [if_pos h2] using h1
  have HAt : Hid (Wl.At (Dk.new R []) []) := at_new (by omega) (by omega)
  clear hT hA hrm
  go_enter Tryz.func4, Tryz.ntmps4
  go_wp2_with fail
  refine HF.out.mono ?_
  rintro e w1 ⟨fv, rfl, hfv, hg1⟩
  have HG1 := Lib.hid hg1
  clear hg1 HF
  cases fv with
  | false =>
    clear hfv
    go_wp2_with fail
    refine (HA.out _ HG1.out).mono ?_
    rintro e w2 ⟨rfl, hg2⟩
    have HG2 := Lib.hid (HG1.out.trans hg2)
    clear hg2
    go_wp2
    go_ret
    exact ⟨rfl, HG2.out⟩
  | true =>
    have htl := hfv rfl
    clear hfv
    by_cases hds : ¬ d.size ≤ 30000
    · have hdb : (30000 : Int) < (d.size : Int) := by omega
      go_wp2_with fail
      refine (HA.out _ HG1.out).mono ?_
      rintro e w2 ⟨rfl, hg2⟩
      have HG2 := Lib.hid (HG1.out.trans hg2)
      clear hg2
      go_wp2
      go_ret
      exact ⟨rfl, HG2.out⟩
    replace hds := Classical.not_not.1 hds
    have hdb : ¬ (30000 : Int) < (d.size : Int) := by omega
    go_wp2_with (go_at_call 15; refine (HR.out _).mono ?_; rintro e w' ⟨rfl, hw⟩; obtain rfl := hw.symm; clear hw)
    refine (HN.out _).mono ?_
    rintro e w2 ⟨b, m, rfl, hn2⟩
    have HN2 : Hid (New w w2 b m (Dk.new R [])) := ⟨hn2.at_, Nat.le_trans HG1.out.size hn2.b0, Nat.le_trans HG1.out.size hn2.m0, HG1.out.trans hn2.gr⟩
    clear hn2 HN HR
    go_wp2_with fail
    refine (opened_new HN2.out HT.out HAt.out rfl d hds).mono ?_
    rintro e w3 (⟨rfl, hg3⟩ | ⟨g, ab, cb, s, l, rfl, ho, hre⟩)
    · have HG3 := Lib.hid hg3
      clear hg3
      go_wp2_with fail
      refine (HA.out _ HG3.out).mono ?_
      rintro e w4 ⟨rfl, hg4⟩
      have HG4 := Lib.hid (HG3.out.trans hg4)
      clear hg4
      go_wp2
      go_ret
      exact ⟨rfl, HG4.out⟩
    · have hbm := HN2.out.blt
      have HLv := Lib.hid ho.lv
      have HRe := Lib.hid hre
      have HHv : Hid (Hv w3 b m g ab [d.data.toList]) := ⟨ho.ro, fun p e => by have h1 := ho.fr p e; have h2 := ho.ng (by simp) p e; exact ⟨by omega, by omega, h2⟩⟩
      have HSm : Hid (StrsAt w3 ab [d]) := by have := ho.ro; rw [show [d.data.toList].map mkT = [d] by simp [mkT]] at this; exact this
      clear ho hre HN2 HAt
      go_wp2_with fail
      refine (same_l1 _ _ _ _ HSm.out).mono ?_
      rintro e w4 ⟨rfl, hg4⟩
      have HL4 := Lib.hid (HLv.out.up hg4)
      have HV4 := Lib.hid (HHv.out.gr hg4)
      clear hg4 HLv HHv HSm
      go_wp2
      go_loopw [12, 9, 10] (fun i lv hv wq => ∃ (k g : Nat) (s : St) (l : Wl.Lg) (h : Wl.Bo) (a3 : Option Addr) (c3 : Nat), k ≤ T.length ∧ i = .int .i64 (k : Int) ∧ lv = ptr g ∧ hv = .slice a3 h.length c3 ∧ Lv w wq b m g s l ∧ Wl.Re s l h ∧ Hv wq b m g a3 h ∧ h.length ≤ k + 1) (fun i _ _ _ => T.length - (intOf i).toNat)
      case atStart => exact ⟨0, g, s, l, _, ab, cb, by omega, rfl, rfl, rfl, HL4.out, HRe.out, HV4.out, by simp⟩
      case round =>
        clear HL4 HRe HV4
        obtain ⟨k, g, s, l, h, a3, c3, hk, rfl, rfl, rfl, hLv, hRe, hHv, hhl⟩ := hrel
        have HLv := Lib.hid hLv
        have HRe := Lib.hid hRe
        have HHv := Lib.hid hHv
        clear hLv hRe hHv
        by_cases hlt : k < T.length
        · obtain ⟨x, off, hade, hxb, c0, c1, c2, c3'⟩ := aw_at HAc.out.row k hlt
          have HIn := Lib.hid (HAc.out.each _ (List.getElem_mem hlt))
          have c0 := HLv.out.nw.gr.keep c0
          have c1 := HLv.out.nw.gr.keep c1
          have c2 := HLv.out.nw.gr.keep c2
          have c3' := HLv.out.nw.gr.keep c3'
          subst hade
          generalize T[k] = y at *
          obtain ⟨yk, yd, yz, ya, yc, yK⟩ := y
          simp only at *
          have hki : (k : Int) < (T.length : Int) := by omega
          have hlt3 := HLv.out.nw.blt
          have hltg := HLv.out.lg.lt
          by_cases p3 : yk = 3
          · subst p3
            have HL5 := Lib.hid ((HLv.out.up (Gr.refl wr).alloc).up (Gr.refl _).alloc (w' := (wr.alloc (.cells #[.int .i64 3, .string yd, .int .i64 yz, .slice ya yK.length yc] 52)).alloc (.cells #[.slice a3 h.length c3] 34)))
            have HV5 := Lib.hid ((HHv.out.gr (Gr.refl wr).alloc).gr (Gr.refl _).alloc (w' := (wr.alloc (.cells #[.int .i64 3, .string yd, .int .i64 yz, .slice ya yK.length yc] 52)).alloc (.cells #[.slice a3 h.length c3] 34)))
            have HAr := Lib.hid (v_arm HL5.out HIn.out.z1 (HIn.out.row.gr HL5.out.nw.gr))
            have HRa := Lib.hid (re_arm HRe.out HIn.out.z1 yK)
            simp only at HAr HRa
            clear HLv HHv HRe HIn
            go_wp2_with fail
            refine HAr.out.mono ?_
            rintro e w5 ⟨E, rfl, hl5, ht5⟩
            have HL6 := Lib.hid hl5
            have HV6 := Lib.hid (HV5.out.td ht5)
            clear hl5 ht5 HAr HL5 HV5
            go_wp2
            go_roundw
            case rel => exact ⟨k + 1, g, _, l, h, a3, c3, by omega, by go_num, rfl, rfl, HL6.out, HRa.out, HV6.out, by omega⟩
            case measure => simp [intOf]; omega
          · have p3b : (yk == 3) = false := by simpa using p3
            go_upto_block 2 with fail
            have hh6 : h.length ≤ 1000000 := by omega
            have HLv1 := Lib.hid ((HLv.out.up (Gr.refl wr).alloc).up (Gr.refl _).alloc (w' := (wr.alloc (.cells #[.int .i64 yk, .string yd, .int .i64 yz, .slice ya yK.length yc] 52)).alloc (.cells #[.slice a3 h.length c3] 34)))
            have HHv1 := Lib.hid ((HHv.out.gr (Gr.refl wr).alloc).gr (Gr.refl _).alloc (w' := (wr.alloc (.cells #[.int .i64 yk, .string yd, .int .i64 yz, .slice ya yK.length yc] 52)).alloc (.cells #[.slice a3 h.length c3] 34)))
            have hsz1 : (wr.alloc (.cells #[.int .i64 yk, .string yd, .int .i64 yz, .slice ya yK.length yc] 52)).heap.size = wr.heap.size + 1 := by simp
            have HMo1 := Lib.hid (mo_one (wr.alloc (.cells #[.int .i64 yk, .string yd, .int .i64 yz, .slice ya yK.length yc] 52)) a3 c3 (HHv.out.gr (Gr.refl wr).alloc) hh6 ⟨by rw [hsz1]; omega, by rw [hsz1]; omega, by rw [hsz1]; omega⟩ (wr.heap.size + 1) hsz1.symm)
            have HOw1 := Lib.hid (own_one (wr.alloc (.cells #[.int .i64 yk, .string yd, .int .i64 yz, .slice ya yK.length yc] 52)) wr.heap.size (.slice a3 h.length c3) 34 (wr.heap.size + 1) hsz1.symm (by rw [hsz1]; omega))
            have HBx1 := Lib.hid ((Bx4.new wr (.int .i64 yk) (.string yd) (.int .i64 yz) (.slice ya yK.length yc) 52 wr.heap.size rfl).gr (Gr.refl _).alloc (w' := (wr.alloc (.cells #[.int .i64 yk, .string yd, .int .i64 yz, .slice ya yK.length yc] 52)).alloc (.cells #[.slice a3 h.length c3] 34)))
            have HKb := Lib.hid (strs_blk HHv.out.ro (map_ne h HRe.out.gd.1))
            have hus := HLv.out.nw.gr.size
            have hs1 : ((wr.alloc (.cells #[.int .i64 yk, .string yd, .int .i64 yz, .slice ya yK.length yc] 52)).alloc (.cells #[.slice a3 h.length c3] 34)).heap.size = wr.heap.size + 2 := by simp
            clear hsz1 HLv HHv c0 c1 c2 c3'
            generalize hW1 : (wr.alloc (.cells #[.int .i64 yk, .string yd, .int .i64 yz, .slice ya yK.length yc] 52)).alloc (.cells #[.slice a3 h.length c3] 34) = W1 at *
            clear hW1
            generalize wr.heap.size = p1 at *
            have hyds := HIn.out.ds
            simp only at hyds
            have HWt : Hid (∀ w5, Hv w5 b m g a3 h → Calls Tryz.prog 19 #[.slice a3 h.length c3, .string yd] w5 fun e w' => ∃ ab cb, e = .returned (.slice ab (h.length + 1) cb) ∧ StrsAt w' ab (h.map mkT ++ [yd]) ∧ (∀ p, ab = some p → w5.heap.size ≤ p.block) ∧ Gr w5 w') := by
              intro w5 q
              have := with_any (h.map mkT) a3 c3 yd w5 q.ro (map_ne h HRe.out.gd.1) (by rw [bo_len]; omega)
              rwa [bo_len] at this
            have HMp : Hid ((h ++ [yd.data.toList]).map mkT = h.map mkT ++ [yd]) := by show _ = _; simp [mkT]
            have HMq : Hid ([yd.data.toList].map mkT = [yd]) := by show _ = _; simp [mkT]
            obtain ⟨i0, hi0, hz0, hz1, hz2⟩ := info_parts infoSS
            clear HIn
            go_cut [10, 14] from 58 to 152 (fun hv mv wx => ∃ (s' : St) (l' : Wl.Lg) (h' : Wl.Bo) (a4 : Option Addr) (c4 q n c : Nat) (M : List Mrow), hv = .slice a4 h'.length c4 ∧ mv = .slice (some ⟨q, 0, none⟩) n c ∧ Cr w wx b m g s' l' h' a4 q n M p1 yk k)
            case first =>
              have c50 := HBx1.out.c0
              have c51 := HBx1.out.c1
              by_cases p0 : yk = 0
              · subst p0
                go_wp2_with fail
                refine (v_append HLv1.out HT.out HRe.out yd hyds).mono ?_
                rintro e w5 ⟨E, s5, l5, rfl, hE, hS, hdid, hl5, ht5⟩
                clear hE hS
                have HL5 := Lib.hid hl5
                have HV5 := Lib.hid (HHv1.out.t3 ht5)
                have HM5 := Lib.hid (HMo1.out.t3 ht5)
                have HB5 := Lib.hid (Bx4.keep HBx1.out (ht5.block p1 HBx1.out.lt (by omega) (by omega) (by omega)))
                have HOw5 := Lib.hid (row_keep HOw1.out (fun j hj => by injection hj with hj; subst hj; exact ht5.block (p1 + 1) (by omega) (by omega) (by omega) (by omega)))
                have hs5 := ht5.size
                have c50 := HB5.out.c0
                have c51 := HB5.out.c1
                have HDid := Lib.hid hdid
                clear hdid hl5 ht5 HLv1 HHv1 HMo1 HBx1 HOw1
                rcases HDid.out with ⟨rfl, hre5, _⟩ | ⟨n1, n2, e1, e2⟩ | ⟨rfl, _, L', r', hdn, hpre, hor⟩
                · have HR5 := Lib.hid hre5
                  clear hre5 HDid HOw5 HM5
                  go_wp2_with fail
                  refine (HWt.out _ HV5.out).mono ?_
                  rintro e w6 ⟨ab, cb, rfl, hro, hfr, hg6⟩
                  have HL6 := Lib.hid (HL5.out.up hg6)
                  have HB6 := Lib.hid (HB5.out.gr hg6)
                  have hs6 := hg6.size
                  have HV6 : Hid (Hv w6 b m g ab (h ++ [yd.data.toList])) := ⟨by rw [HMp.out]; exact hro, fun p e => by have := hfr p e; exact ⟨by omega, by omega, by omega⟩⟩
                  have hll : (h ++ [yd.data.toList]).length = h.length + 1 := by simp
                  have hbm6 := HL6.out.nw.blt
                  have hg6l := HL6.out.lg.lt
                  have HM6 := Lib.hid (mo_one w6 ab cb HV6.out (by rw [hll]; omega) ⟨hbm6.1, hbm6.2, hg6l⟩ w6.heap.size rfl)
                  rw [hll] at HM6
                  clear hro hfr hg6 HWt HL5 HV5 HB5
                  go_wp2_with fail
                  go_meet
                  exact ⟨s5, l5, h ++ [yd.data.toList], ab, cb, w6.heap.size, 1, 1, _, by rw [hll], rfl, ⟨HL6.out.up (Gr.refl _).alloc, HV6.out.gr (Gr.refl _).alloc, HM6.out, by omega, by rw [hll]; omega, (HB6.out.gr (Gr.refl _).alloc).c0, Or.inl ⟨HR5.out, _, List.mem_singleton.2 rfl, rfl⟩⟩⟩
                · have n1b : (E == 0) = false := by simpa using n1
                  have n2b : (E == 150) = false := by simpa using n2
                  rw [e1, e2] at HL5
                  clear HDid e1 e2 HOw5 HWt n1 n2
                  go_wp2_with fail
                  go_meet
                  exact ⟨s, l, h, a3, c3, p1 + 1, 1, 1, _, rfl, rfl, ⟨HL5.out, HV5.out, HM5.out, by omega, by omega, HB5.out.c0, Or.inl ⟨HRe.out, _, List.mem_singleton.2 rfl, rfl⟩⟩⟩
                · have HDn : Hid (s5.dead = true ∧ Met s5 r' ∧ (r' = h ∨ r' = h ++ [yd.data.toList])) := ⟨hdn.dn, met_dn hdn hpre, hor⟩
                  clear HDid hdn hpre hor
                  go_wp2_with fail
                  refine (HWt.out _ HV5.out).mono ?_
                  rintro e w6 ⟨ab, cb, rfl, hro, hfr, hg6⟩
                  have HR6 : Hid (StrsAt w6 ab (h.map mkT ++ [yd])) := hro
                  have HFr : Hid (∀ p, ab = some p → w5.heap.size ≤ p.block) := hfr
                  clear hro hfr
                  have HL6 := Lib.hid (HL5.out.up hg6)
                  have HV6 := Lib.hid (HV5.out.gr hg6)
                  have HB6 := Lib.hid (HB5.out.gr hg6)
                  have HOw6 := Lib.hid (row_gr HOw5.out hg6)
                  have hs6 := hg6.size
                  have HMr : Hid (mrf (⟨ab, cb, (h.map mkT ++ [yd])⟩ : Mrow) = .slice ab (h.length + 1) cb) := by show _ = _; simp [mrf]
                  obtain ⟨z6, hz6e⟩ : ∃ x, x = w6.heap.size := ⟨_, rfl⟩
                  have HRw7 := Lib.hid (mrl_lit w6 (⟨ab, cb, (h.map mkT ++ [yd])⟩ : Mrow) z6 hz6e)
                  rw [HMr.out] at HRw7
                  have HOw7 := Lib.hid (row_gr HOw6.out ((Gr.refl w6).alloc (o := .cells #[.slice ab (h.length + 1) cb] 34)))
                  clear hg6 HWt HOw5 HOw6 HL5 HV5 HB5
                  have hz6f := hz6e
                  go_wp2_with (first
                    | (at_builtin; rw [← hz6e]; refine wpList_append_row rfl _ _ 53 rfl p1 34 i0 (.slice none 0 0) 1 24 Tryz.underlying53 hi0 hz0 hz1 hz2 rfl (by decide) _ _ _ rfl HOw7.out mrl_len [(⟨ab, cb, (h.map mkT ++ [yd])⟩ : Mrow)] (some ⟨z6, 0, none⟩) 1 rfl (fun e => by cases e) HRw7.out (mrl_one _) (by unfold maxLen; simp) (by simp) (by simp; omega) ?_)
                    | fail)
                  intro v7 w7 ho7 hgr7 _
                  have hgr7 : (_ : World).grownBy w7 (some (p1 + 1)) := hgr7
                  have HX7 := Lib.hid (strs_grown (HV6.out.ro.gr (Gr.refl _).alloc) hgr7 (fun p e e2 => by injection e2 with e2; have := HKb.out p e; omega))
                  have HY7 := Lib.hid (strs_grown (HR6.out.gr (Gr.refl _).alloc) hgr7 (fun p e e2 => by injection e2 with e2; have := HFr.out p e; omega))
                  have HL7 := Lib.hid ((HL6.out.up (Gr.refl _).alloc).grown hgr7 ⟨by omega, by omega, by omega⟩ (by omega))
                  have HV7 := Lib.hid ((HV6.out.gr (Gr.refl _).alloc).grown hgr7 (fun p e => by have := HKb.out p e; omega))
                  have HB7 := Lib.hid (Bx4.grown (HB6.out.gr (Gr.refl _).alloc) hgr7 (fun e => by injection e with e; omega))
                  obtain ⟨q7, c7, rfl, hmo7⟩ := mo_two (x := ⟨a3, c3, h.map mkT⟩) (y := (⟨ab, cb, (h.map mkT ++ [yd])⟩ : Mrow)) (b := b) (m := m) (g := g) (by have h9 := ho7; simp only [mrl, HMr.out] at h9; simpa [mrf] using h9) ⟨HX7.out, by simpa using hh6⟩ ⟨HY7.out, by simp; omega⟩ ⟨by omega, by omega, by omega⟩ HV7.out.of (fun p e => by have := HFr.out p e; exact ⟨by omega, by omega, by omega⟩)
                  have HM7 := Lib.hid hmo7
                  clear ho7 hgr7 hmo7 HX7 HY7 HOw7 HRw7 HL6 HV6 HB6 HR6
                  go_wp2_with fail
                  go_meet
                  refine ⟨s5, l5, h, a3, c3, q7, 2, c7, _, rfl, rfl, ⟨HL7.out, HV7.out, HM7.out, by omega, by omega, HB7.out.c0, Or.inr ⟨HDn.out.1, by decide, r', HDn.out.2.1, ?_⟩⟩⟩
                  rcases HDn.out.2.2 with e | e
                  · subst e; exact ⟨by omega, ⟨a3, c3, r'.map mkT⟩, by simp, rfl⟩
                  · rw [e]; exact ⟨by simp; omega, ⟨ab, cb, h.map mkT ++ [yd]⟩, by simp, HMp.out.symm⟩
              by_cases q0 : yk = 1
              · subst q0
                go_wp2_with fail
                refine (v_turn HLv1.out HT.out HRe.out yd hyds).mono ?_
                rintro e w5 ⟨E, s5, l5, rfl, hE, hS, hLl, hdid, hl5, ht5⟩
                clear hE hS hLl
                have HL5 := Lib.hid hl5
                have HV5 := Lib.hid (HHv1.out.t3 ht5)
                have HM5 := Lib.hid (HMo1.out.t3 ht5)
                have HB5 := Lib.hid (Bx4.keep HBx1.out (ht5.block p1 HBx1.out.lt (by omega) (by omega) (by omega)))
                have HOw5 := Lib.hid (row_keep HOw1.out (fun j hj => by injection hj with hj; subst hj; exact ht5.block (p1 + 1) (by omega) (by omega) (by omega) (by omega)))
                have hs5 := ht5.size
                have c50 := HB5.out.c0
                have c51 := HB5.out.c1
                have HDid := Lib.hid hdid
                clear hdid hl5 ht5 HLv1 HHv1 HMo1 HBx1 HOw1
                rcases HDid.out with ⟨rfl, hre5, _⟩ | ⟨n1, n2, e1, e2⟩ | ⟨rfl, _, L', r', hdn, hpre, hor⟩
                · have HR5 := Lib.hid hre5
                  clear hre5 HDid HOw5 HM5 HWt
                  have hbm5 := HL5.out.nw.blt
                  have hg5l := HL5.out.lg.lt
                  have HV6 : Hid (Hv (w5.alloc (.cells #[.string yd] 9)) b m g (some ⟨w5.heap.size, 0, none⟩) [yd.data.toList]) := ⟨by rw [HMq.out]; exact own_lit1 w5 yd, fun p e => by cases e; exact ⟨by show w5.heap.size ≠ b; omega, by show w5.heap.size ≠ m; omega, by show w5.heap.size ≠ g; omega⟩⟩
                  have hz6 : (w5.alloc (.cells #[.string yd] 9)).heap.size = w5.heap.size + 1 := by simp
                  have HM6 := Lib.hid (mo_one (w5.alloc (.cells #[.string yd] 9)) (some ⟨w5.heap.size, 0, none⟩) 1 HV6.out (by simp) ⟨by rw [hz6]; omega, by rw [hz6]; omega, by rw [hz6]; omega⟩ (w5.heap.size + 1) hz6.symm)
                  clear hz6
                  go_wp2_with fail
                  go_meet
                  exact ⟨s5, l5, [yd.data.toList], _, 1, w5.heap.size + 1, 1, 1, _, rfl, rfl, ⟨(HL5.out.up (Gr.refl _).alloc).up (Gr.refl _).alloc, HV6.out.gr (Gr.refl _).alloc, HM6.out, by omega, by simp, ((HB5.out.gr (Gr.refl _).alloc).gr (Gr.refl _).alloc).c0, Or.inl ⟨HR5.out, _, List.mem_singleton.2 rfl, rfl⟩⟩⟩
                · have n1b : (E == 0) = false := by simpa using n1
                  have n2b : (E == 150) = false := by simpa using n2
                  rw [e1, e2] at HL5
                  clear HDid e1 e2 HOw5 HWt n1 n2
                  go_wp2_with fail
                  go_meet
                  exact ⟨s, l, h, a3, c3, p1 + 1, 1, 1, _, rfl, rfl, ⟨HL5.out, HV5.out, HM5.out, by omega, by omega, HB5.out.c0, Or.inl ⟨HRe.out, _, List.mem_singleton.2 rfl, rfl⟩⟩⟩
                · have HDn : Hid (s5.dead = true ∧ Met s5 r' ∧ (r' = h ∨ r' = [yd.data.toList])) := ⟨hdn.dn, met_dn hdn hpre, hor⟩
                  clear HDid hdn hpre hor
                  have hg6 : Gr w5 (w5.alloc (.cells #[.string yd] 9)) := (Gr.refl w5).alloc
                  have HR6 := Lib.hid (own_lit1 w5 yd)
                  have HFr : Hid (∀ p, (some ⟨w5.heap.size, 0, none⟩ : Option Addr) = some p → w5.heap.size ≤ p.block) := fun p e => by cases e; exact Nat.le_refl _
                  obtain ⟨w6, hw6⟩ : ∃ x, x = w5.alloc (.cells #[.string yd] 9) := ⟨_, rfl⟩
                  have hz6 : w6.heap.size = w5.heap.size + 1 := by rw [hw6]; simp
                  rw [← hw6] at hg6 HR6
                  have HL6 := Lib.hid (HL5.out.up hg6)
                  have HV6 := Lib.hid (HV5.out.gr hg6)
                  have HB6 := Lib.hid (HB5.out.gr hg6)
                  have HOw6 := Lib.hid (row_gr HOw5.out hg6)
                  have hs6 := hg6.size
                  have HMr : Hid (mrf (⟨(some ⟨w5.heap.size, 0, none⟩), 1, [yd]⟩ : Mrow) = .slice (some ⟨w5.heap.size, 0, none⟩) 1 1) := by show _ = _; simp [mrf]
                  obtain ⟨z6, hz6e⟩ : ∃ x, x = w6.heap.size := ⟨_, rfl⟩
                  have HRw7 := Lib.hid (mrl_lit w6 (⟨(some ⟨w5.heap.size, 0, none⟩), 1, [yd]⟩ : Mrow) z6 hz6e)
                  rw [HMr.out] at HRw7
                  have HOw7 := Lib.hid (row_gr HOw6.out ((Gr.refl w6).alloc (o := .cells #[.slice (some ⟨w5.heap.size, 0, none⟩) 1 1] 34)))
                  clear hg6 HWt HOw5 HOw6 HL5 HV5 HB5
                  rw [hz6] at hz6e
                  subst hw6
                  subst hz6e
                  go_wp2_with (first
                    | (at_builtin; refine wpList_append_row rfl _ _ 53 rfl p1 34 i0 (.slice none 0 0) 1 24 Tryz.underlying53 hi0 hz0 hz1 hz2 rfl (by decide) _ _ _ rfl HOw7.out mrl_len [(⟨(some ⟨w5.heap.size, 0, none⟩), 1, [yd]⟩ : Mrow)] (some ⟨(w5.heap.size + 1), 0, none⟩) 1 rfl (fun e => by cases e) HRw7.out (mrl_one _) (by unfold maxLen; simp) (by simp) (by simp; omega) ?_)
                    | fail)
                  intro v7 w7 ho7 hgr7 _
                  have hgr7 : (_ : World).grownBy w7 (some (p1 + 1)) := hgr7
                  have HX7 := Lib.hid (strs_grown (HV6.out.ro.gr (Gr.refl _).alloc) hgr7 (fun p e e2 => by injection e2 with e2; have := HKb.out p e; omega))
                  have HY7 := Lib.hid (strs_grown (HR6.out.gr (Gr.refl _).alloc) hgr7 (fun p e e2 => by injection e2 with e2; have := HFr.out p e; omega))
                  have HL7 := Lib.hid ((HL6.out.up (Gr.refl _).alloc).grown hgr7 ⟨by omega, by omega, by omega⟩ (by omega))
                  have HV7 := Lib.hid ((HV6.out.gr (Gr.refl _).alloc).grown hgr7 (fun p e => by have := HKb.out p e; omega))
                  have HB7 := Lib.hid (Bx4.grown (HB6.out.gr (Gr.refl _).alloc) hgr7 (fun e => by injection e with e; omega))
                  obtain ⟨q7, c7, rfl, hmo7⟩ := mo_two (x := ⟨a3, c3, h.map mkT⟩) (y := (⟨(some ⟨w5.heap.size, 0, none⟩), 1, [yd]⟩ : Mrow)) (b := b) (m := m) (g := g) (by have h9 := ho7; simp only [mrl, HMr.out] at h9; simpa [mrf] using h9) ⟨HX7.out, by simpa using hh6⟩ ⟨HY7.out, by simp⟩ ⟨by omega, by omega, by omega⟩ HV7.out.of (fun p e => by have := HFr.out p e; exact ⟨by omega, by omega, by omega⟩)
                  have HM7 := Lib.hid hmo7
                  clear ho7 hgr7 hmo7 HX7 HY7 HOw7 HRw7 HL6 HV6 HB6 HR6
                  go_wp2_with fail
                  go_meet
                  refine ⟨s5, l5, h, a3, c3, q7, 2, c7, _, rfl, rfl, ⟨HL7.out, HV7.out, HM7.out, by omega, by omega, HB7.out.c0, Or.inr ⟨HDn.out.1, by decide, r', HDn.out.2.1, ?_⟩⟩⟩
                  rcases HDn.out.2.2 with e | e
                  · subst e; exact ⟨by omega, ⟨a3, c3, r'.map mkT⟩, by simp, rfl⟩
                  · rw [e]; exact ⟨by simp, ⟨some ⟨w5.heap.size, 0, none⟩, 1, [yd]⟩, by simp, HMq.out.symm⟩
              have p0b : (yk == 0) = false := by simpa using p0
              have q0b : (yk == 1) = false := by simpa using q0
              clear HWt HOw1
              go_wp2_with fail
              go_meet
              exact ⟨s, l, h, a3, c3, p1 + 1, 1, 1, _, rfl, rfl, ⟨HLv1.out, HHv1.out, HMo1.out, by omega, by omega, HBx1.out.c0, Or.inl ⟨HRe.out, _, List.mem_singleton.2 rfl, rfl⟩⟩⟩
            case rest =>
              obtain ⟨w8, hw8⟩ : ∃ x, x = wc := ⟨_, rfl⟩
              rw [← hw8] at hcut ⊢
              clear hw8 HWt HOw1 HLv1 HHv1 HMo1 HBx1 HKb HRe hs1
              obtain ⟨s8, l8, h8, a8, c8, q8, n8, e8, M8, rfl, rfl, hC⟩ := hcut
              have HC := Lib.hid hC
              have k0 := hC.c0
              have HDe : Hid (Calls Tryz.prog 21 #[ptr b] w8 fun e w' => e = .returned (.bool s8.dead) ∧ w' = w8) := by
                obtain ⟨A, hA⟩ := hC.lv.nw.at_
                exact dead_any hA
              clear hC
              obtain ⟨hre8, x8, hx8, hxe⟩ | ⟨hdd, hy2, r8, hmet, hrl, x8, hx8, hxe⟩ := HC.out.af
              · have hup : s8.dead = false := hre8.at_.up
                rw [hup] at HDe
                by_cases p2 : yk = 2
                · subst p2
                  have HOp := Lib.hid (opened_any HC.out.lv.nw HT.out (met_re hre8) d hd)
                  have HX : Hid (∃ x ∈ M8, x.L = h8.map mkT) := ⟨x8, hx8, hxe⟩
                  have hrl : h8.length ≤ k + 2 := HC.out.hl
                  clear hre8 hup hx8 hxe HDe
                  go_wp2_with fail
                  refine HOp.out.mono ?_
                  rintro e w9 ⟨g9, a9, c9, s9, l9, rfl, ho9, hre9⟩
                  have hbm8 := HC.out.lv.nw.blt
                  have HL9 := Lib.hid ho9.lv
                  have HR9 := Lib.hid hre9
                  have HV9 : Hid (Hv w9 b m g9 a9 h8) := ⟨ho9.ro, fun p e => by have h1 := ho9.fr p e; have h2 := ho9.ng hre9.gd.1 p e; exact ⟨by omega, by omega, h2⟩⟩
                  have HM9 := Lib.hid (HC.out.mo.td ho9.td).at_
                  have hn8 := HC.out.n2
                  have HAm : Hid (Calls Tryz.prog 22 #[.slice a9 (h8.map mkT).length c9, .slice (some ⟨q8, 0, none⟩) n8 e8] w9 fun e w' => e = .returned (.bool true) ∧ Gr w9 w') := among_any HM9.out (by omega) (h8.map mkT) a9 c9 ho9.ro (by rw [bo_len]; omega) HX.out
                  rw [bo_len] at HAm
                  clear ho9 hre9 HOp HX HC HM9
                  go_wp2_with fail
                  refine HAm.out.mono ?_
                  rintro e wa ⟨rfl, hga⟩
                  have HLa := Lib.hid (HL9.out.up hga)
                  have HVa := Lib.hid (HV9.out.gr hga)
                  clear hga HAm HL9 HV9
                  go_wp2
                  go_roundw
                  case rel => exact ⟨k + 1, g9, s9, l9, h8, a9, c9, by omega, by go_num, rfl, rfl, HLa.out, HR9.out, HVa.out, by omega⟩
                  case measure => simp [intOf]; omega
                · have p2b : (yk == 2) = false := by simpa using p2
                  have HRe8 := Lib.hid hre8
                  have hl8 := HC.out.hl
                  clear hre8 hup hx8 hxe
                  go_wp2_with (go_at_call 21; refine HDe.out.mono ?_; rintro e w' ⟨rfl, hw⟩; obtain rfl := hw.symm; clear hw)
                  go_roundw
                  case rel => exact ⟨k + 1, g, s8, l8, h8, a8, c8, by omega, by go_num, rfl, rfl, HC.out.lv, HRe8.out, HC.out.hv, by omega⟩
                  case measure => simp [intOf]; omega
              · rw [hdd] at HDe
                have p2b : (yk == 2) = false := by simpa using hy2
                have HOp := Lib.hid (opened_any HC.out.lv.nw HT.out hmet d hd)
                have HX : Hid (∃ x ∈ M8, x.L = r8.map mkT) := ⟨x8, hx8, hxe⟩
                clear hdd hmet hx8 hxe
                go_wp2_with (go_at_call 21; refine HDe.out.mono ?_; rintro e w' ⟨rfl, hw⟩; obtain rfl := hw.symm; clear hw)
                refine HOp.out.mono ?_
                rintro e w9 ⟨g9, a9, c9, s9, l9, rfl, ho9, hre9⟩
                have hbm8 := HC.out.lv.nw.blt
                have HL9 := Lib.hid ho9.lv
                have HR9 := Lib.hid hre9
                have HV9 : Hid (Hv w9 b m g9 a9 r8) := ⟨ho9.ro, fun p e => by have h1 := ho9.fr p e; have h2 := ho9.ng hre9.gd.1 p e; exact ⟨by omega, by omega, h2⟩⟩
                have HM9 := Lib.hid (HC.out.mo.td ho9.td).at_
                have hn8 := HC.out.n2
                have HAm : Hid (Calls Tryz.prog 22 #[.slice a9 (r8.map mkT).length c9, .slice (some ⟨q8, 0, none⟩) n8 e8] w9 fun e w' => e = .returned (.bool true) ∧ Gr w9 w') := among_any HM9.out (by omega) (r8.map mkT) a9 c9 ho9.ro (by rw [bo_len]; omega) HX.out
                rw [bo_len] at HAm
                clear ho9 hre9 HOp HX HC HM9 HDe
                go_wp2_with fail
                refine HAm.out.mono ?_
                rintro e wa ⟨rfl, hga⟩
                have HLa := Lib.hid (HL9.out.up hga)
                have HVa := Lib.hid (HV9.out.gr hga)
                clear hga HAm HL9 HV9
                go_wp2
                go_roundw
                case rel => exact ⟨k + 1, g9, s9, l9, r8, a9, c9, by omega, by go_num, rfl, rfl, HLa.out, HR9.out, HVa.out, by omega⟩
                case measure => simp [intOf]; omega
        · have HG := Lib.hid HLv.out.nw.gr
          clear HLv
          go_wp2_with fail
          refine (HA.out _ HG.out).mono ?_
          rintro e w5 ⟨rfl, hg5⟩
          have HG5 := Lib.hid (HG.out.trans hg5)
          clear hg5
          go_wp2
          go_ret
          exact ⟨rfl, HG5.out⟩

set_option maxRecDepth 100000 in
theorem walCrash_lifted (os : Os) (started : os.Started) (H : Type) (enc : TypeId × Value → H) :
    ReturnsInHanded {} Tryz.checked os 4 .any (fun w args => (Rows.walCrashSpec.pre enc Tryz.prog Tryz.f4 [] false w args ∧ laidMetH Tryz.prog laidL w) ∧ sizedMet enc Tryz.prog Tryz.f4 (OpenSpec.ofChange Rows.walCrashSpec) false w args)
      (Rows.walCrashSpec.post enc Tryz.prog Tryz.f4 false true false false) := by
  refine returnsInHanded_of_change_and (C := Tryz.checked) (X := fun w _ => laidMetH Tryz.prog laidL w) (fun _ _ _ hh h => h.of_heap hh) own2 started (by kernel_rfl) Tryz.func4
    (ChangeSpec.witness_shaped (enc := enc) (C := Tryz.checked) (os := os) (X := fun w _ => laidMetH Tryz.prog laidL w) false (World.doorLaid Tryz.prog 400 os) #[.int .i64 0, .string ⟨#[]⟩, .slice none 0 0] 8 rfl (World.shaped_of_RefB (by kernel_rfl) (by kernel_rfl)) (by kernel_rfl) (by kernel_rfl) (by kernel_rfl) (door_met os _)) ?_
  intro W base args ds gs before hval0 hW _ hsz0 hL _
  have hval : ∀ (j : Nat) t v, Tryz.f4.params[j]? = some t → args[j]? = some v → Value.okWide Tryz.prog W .any base t v := hval0
  have hsz : (DataW.weightsEach Tryz.prog (Tryz.f4.params.toList ++ Rows.walCrashSpec.plain.varTypes Tryz.prog) (ds ++ gs)).all (· ≤ reachBytes) = true := hsz0
  have hW' := hW
  obtain ⟨p, q, hA0, hV, rfl, hfz, hnd⟩ := hW
  have hA : DataW.TrodAll enc Tryz.prog W 0 (fun _ => true) true Tryz.f4.params.toList args.toList ds p := hA0
  rw [Tryz.params4] at hA hval hsz
  obtain ⟨v0, v1, v2, d0, d1, d2, p0, p1, p2, rfl, rfl, rfl, h0, h1, h2⟩ := trodAll_three hA
  obtain ⟨rfl, rfl⟩ := trodVars_none hV
  have k2 := h2
  have lt2 : ∀ x ∈ p2, x.block < W.heap.size := by obtain ⟨m, hm⟩ := k2; exact DataW.trod_lt m _ _ _ hm
  obtain ⟨a0, rfl, rfl, rfl, wa0⟩ := open_int Tryz.underlying3 (hval 0 3 v0 rfl rfl) h0
  have rg0 := rng_i64 wa0
  obtain ⟨a1, rfl, rfl, rfl, wa1⟩ := open_string Tryz.underlying9 (hval 1 9 v1 rfl rfl) h1
  have hr1 : a1.size ≤ 140737488355328 := by
    have hr := sized_string hsz (j := 1) (t := 9) rfl rfl
    have : a1.data.toList.length = a1.size := by simp
    simp only [reachBytes] at hr
    omega
  obtain ⟨ad2, cap2, T2, rfl, hT2⟩ := open_awts (hval 2 47 v2 rfl rfl) h2
  clear hA0 hval0
  have hT := tab_of_laid hL
  refine (walCrash_walk a0 a1 T2 ad2 cap2 W hT hr1 hT2).mono fun e W' ⟨he, hg⟩ => ?_
  subst he
  exact ⟨_, rfl, _, _, _, [], _, [], hW', trodAll_mk1 (shut_bool Tryz.underlying4 _), trodAll_mk3 (shut_int Tryz.underlying3 wa0) (shut_string Tryz.underlying9 wa1) (Below.trod laidOut2 (by kernel_rfl) (of_decide_eq_true (by kernel_rfl)) k2 hg.below lt2), rfl, hg.below.frame _, fun h => by cases h⟩

theorem walCrash_holds : Rows.WalCrashSaid :=
  OpenClaim.holds_of_wide 4 Tryz.f4 rfl rfl rfl rfl rfl rfl rfl ⟨rfl, rfl, rfl, rfl, rfl⟩ rfl rfl rfl rfl rfl (by kernel_rfl) Tryz.func4 (by kernel_rfl)
    (of_decide_eq_true (by kernel_rfl)) (by unfold Func.isWrapper; first | (rw [if_pos (by decide +kernel)]; kernel_rfl) | (rw [if_neg (by decide +kernel)]; exact ⟨rfl, rfl⟩))
    (fun os started H enc _ => walCrash_lifted os started H enc)

theorem walCrash_card_holds : Rows.WalCrashCardSaid :=
  Claim7.holds_tied_plain_at .later [] [.data] true (true, "dbba723600e418df5d058b168464600b65fb05c8b833bd36848eb06d190fdb56") false
    walCrash_holds (fun _ h => by cases h) (by kernel_rfl) (fun _ h => by cases h) walCrash_row_tie rfl ⟨rfl, rfl⟩ (by kernel_rfl) rfl
    (fun f fn hf hfn => by
      obtain rfl : f = 4 := Option.some.inj ((show Tryz.prog.funcNamed "entente/ententelaw17.WalCrash" = some 4 by kernel_rfl).symm.trans hf) |>.symm
      obtain rfl : fn = Tryz.f4 := (Option.some.inj (Tryz.func4.symm.trans hfn)).symm
      exact ⟨by kernel_rfl, fun j t ht => by
        rw [Tryz.params4] at ht
        have hm : t ∈ [3, 9, 47] := by simpa using Array.mem_of_getElem? ht
        have hall : ([3, 9, 47].all fun u => !Tryz.prog.wantsStandIn u) = true := by kernel_rfl
        exact (show Tryz.prog.wantsStandIn t = false by simpa using List.all_eq_true.1 hall t hm)⟩)
    (by kernel_rfl)
end Go.Proofs.YtojmhhmpmpbpfaaGreatDoor
