/- Parts of these proofs, laid together. -/
import Derived.Test.YtojmhhmpmpbpfaaGreatDoorGZ
import Derived.Test.YtojmhhmpmpbpfaaGreatDoorGP
import Derived.Test.YtojmhhmpmpbpfaaGreatDoorGBD
import Derived.BigRegion
namespace Go.Proofs.YtojmhhmpmpbpfaaGreatDoor
open Go.RowKit Go.Maps
open Dk (Fl Fo St Ok)
variable {X : Nat → Prop} {u w w' w2 : World} {r : Nat} {s : St} {n : Int}

theorem Tr.cellN {j o : Nat} {v : Value} (h : Tr w w' r) (hj : j ≠ r) (hc : w.cell? ⟨j, o, none⟩ = some v) : w'.cell? ⟨j, o, none⟩ = some v := by
  rw [World.cell?_of_block (w := w) (h.block j (World.block_lt_of_cell? w _ hc) (fun e => hj (by injection e)))]; exact hc
theorem Tr.ints {ad : Option Addr} {l : List Int} (h : IntsAt w ad l) (t : Tr w w' r) (hd : ∀ p, ad = some p → p.block ≠ r) : IntsAt w' ad l :=
  ints_keep h t.size (fun p e hl => t.block _ hl (fun e2 => hd p e (by injection e2)))
theorem Tr.strs {ad : Option Addr} {l : List ByteArray} (h : StrsAt w ad l) (t : Tr w w' r) (hd : ∀ p, ad = some p → p.block ≠ r) : StrsAt w' ad l := by
  intro j hj
  obtain ⟨x, off, rfl, hb, hc⟩ := h j hj
  exact ⟨x, off, rfl, Nat.lt_of_lt_of_le hb t.size, t.cellN (hd _ rfl) hc⟩
theorem Rf.ok (h : Rf X w r s) : Ok s := by
  obtain ⟨fa, fc, ka, kc, h⟩ := h
  exact h.ok
theorem Rf.lt (h : Rf X w r s) : r < w.heap.size := by
  obtain ⟨fa, fc, ka, kc, h⟩ := h
  exact h.lt
set_option maxHeartbeats 4000000 in
set_option maxRecDepth 100000 in
theorem rdrop_any (h : Rf X w r s) {l : List Int} {ad : Option Addr} {cap : Nat} (hl : IntsAt w ad l) (hd : ∀ p, ad = some p → p.block ≠ r) (hlen : l.length ≤ 9223372036854775807) :
    Calls Tryz.prog 35 #[ptr r, .slice ad l.length cap] w fun e w' => e = .returned (.int .i64 (Wl.drp s l).1) ∧ Rf X w' r (Wl.drp s l).2 ∧ Tr w w' r := by
  have HI : Hid (∀ w', Tr w w' r → IntsAt w' ad l) := fun w' k => Tr.ints hl k hd
  have HD := Lib.hid h
  clear h hl hd
  go_enter Tryz.func35, Tryz.ntmps35
  go_wp2
  go_loopw [5] (fun i wr => ∃ (k : Nat) (s' : St), k ≤ l.length ∧ i = .int .i64 (k : Int) ∧ Rf X wr r s' ∧ Tr w wr r ∧ Wl.drp s l = Wl.drp s' (l.drop k)) (fun i _ => l.length - (intOf i).toNat)
  case atStart => exact ⟨0, s, Nat.zero_le _, rfl, HD.out, Tr.refl _ _, by rw [List.drop_zero]⟩
  case round =>
    obtain ⟨k, s', hk, rfl, hd', ht, he⟩ := hrel
    by_cases hlt : k < l.length
    · obtain ⟨x, off, hade, hxb, hxc⟩ := HI.out _ ht k hlt
      obtain ⟨fa, fc, ka, kc, hra⟩ := hd'
      have HM := Lib.hid (rstep3_any hra l[k])
      have HT := Lib.hid ht
      rw [List.drop_eq_getElem_cons hlt] at he
      have HE := Lib.hid he
      subst hade
      clear ht he hra HI HD
      generalize l[k] = y at *
      by_cases e1 : Dk.stpE s' 3 y 0 = 0
      · rw [e1] at HM
        go_wp2_with fail
        refine HM.out.mono ?_
        rintro e w2 ⟨rfl, hr2, ht2⟩
        have HR2 := Lib.hid hr2
        have HT2 := Lib.hid (HT.out.trans ht2)
        clear hr2 ht2
        go_wp2
        go_roundw
        case rel => exact ⟨k + 1, Dk.stpS s' 3 y 0, by omega, by simp, HR2.out, HT2.out, by rw [HE.out, drp_cons, if_pos e1]⟩
        case measure => simp [intOf]; omega
      · have e1b : (Dk.stpE s' 3 y 0 == 0) = false := by simpa using e1
        have HQ : Hid ((Wl.drp s l).1 = Dk.stpE s' 3 y 0 ∧ (Wl.drp s l).2 = Dk.stpS s' 3 y 0) := by
          show _ ∧ _
          rw [HE.out, drp_cons, if_neg e1]; exact ⟨rfl, rfl⟩
        clear HE
        generalize Dk.stpE s' 3 y 0 = eB at *
        generalize Dk.stpS s' 3 y 0 = sB at *
        go_wp2_with fail
        refine HM.out.mono ?_
        rintro e w2 ⟨rfl, hr2, ht2⟩
        have HR2 := Lib.hid hr2
        have HT2 := Lib.hid (HT.out.trans ht2)
        clear hr2 ht2
        go_wp2
        go_ret
        exact ⟨by rw [HQ.out.1]; rfl, by rw [HQ.out.2]; exact HR2.out, HT2.out⟩
    · obtain rfl : k = l.length := by omega
      rw [List.drop_length] at he
      have HQ := Lib.hid he
      have HW := Lib.hid hd'
      have HT := Lib.hid ht
      clear ht he hd' HI HD
      go_wp2
      go_ret
      exact ⟨by rw [HQ.out]; rfl, by rw [HQ.out]; exact HW.out, HT.out⟩
set_option maxHeartbeats 4000000 in
set_option maxRecDepth 100000 in
theorem rbegin_any (h : Rf X w r s) (d : ByteArray) (hd : d.size ≤ 9223372036854775807) :
    Calls Tryz.prog 36 #[ptr r, .int .i64 n, .string d] w fun e w' => e = .returned (.tuple #[.int .i64 (Wl.beg s n d).1, .int .i64 (Wl.beg s n d).2.1]) ∧ Rf X w' r (Wl.beg s n d).2.2 ∧ Tr w w' r := by
  have HB := Lib.hid (refSeal_any 3 d w hd)
  have HD := Lib.hid h
  by_cases e1 : d.size ≤ 30000
  · rw [(seal_yes e1).1, (seal_yes e1).2] at HB
    have hfz := fr_le e1
    have HP : Hid (∀ w2, Gr w w2 → Calls Tryz.prog 65 #[ptr r, .int .i64 n, .string (Wl.fr d)] w2 fun e w' => e = .returned (.int .i64 (Dk.appE s n (Wl.fr d))) ∧ Rf X w' r (Dk.appS s n (Wl.fr d)) ∧ Tr w2 w' r) := by
      intro w2 k
      obtain ⟨fa, fc, ka, kc, hra⟩ := h
      exact rappend_any (hra.gr k) n (Wl.fr d) (by omega)
    unfold Wl.beg
    simp only [if_pos e1]
    by_cases e2 : Dk.appE s n (Wl.fr d) = 0
    · simp only [if_pos e2]
      rw [e2] at HP
      have HY : Hid (∀ w2, Rf X w2 r (Dk.appS s n (Wl.fr d)) → Calls Tryz.prog 38 #[ptr r, .int .i64 1, .int .i64 n, .int .i64 0] w2 fun e w' => e = .returned (.int .i64 (Dk.stpE (Dk.appS s n (Wl.fr d)) 1 n 0)) ∧ Rf X w' r (Dk.stpS (Dk.appS s n (Wl.fr d)) 1 n 0) ∧ Tr w2 w' r) := by
        intro w2 k
        obtain ⟨fa, fc, ka, kc, hra⟩ := k
        exact rstep1_any hra n
      clear h
      generalize Dk.appS s n (Wl.fr d) = sA at *
      generalize Dk.stpE sA 1 n 0 = eB at *
      generalize Dk.stpS sA 1 n 0 = sB at *
      generalize Wl.fr d = F at *
      go_enter Tryz.func36, Tryz.ntmps36
      go_wp2_with fail
      refine HB.out.mono ?_
      rintro e w1 ⟨rfl, hg1⟩
      have HG1 := Lib.hid hg1
      clear hg1
      go_wp2_with fail
      refine (HP.out _ HG1.out).mono ?_
      rintro e w2 ⟨rfl, hr2, ht2⟩
      have HR2 := Lib.hid hr2
      have HT2 := Lib.hid ((Tr.gr HG1.out).trans ht2)
      clear hr2 ht2
      go_wp2_with fail
      refine (HY.out _ HR2.out).mono ?_
      rintro e w3 ⟨rfl, hr3, ht3⟩
      have HR3 := Lib.hid hr3
      have HT3 := Lib.hid (HT2.out.trans ht3)
      clear hr3 ht3
      go_wp2
      go_ret2
      exact ⟨rfl, HR3.out, HT3.out⟩
    · simp only [if_neg e2]
      have e2b : (Dk.appE s n (Wl.fr d) == 0) = false := by simpa using e2
      clear h
      generalize Dk.appS s n (Wl.fr d) = sA at *
      generalize Dk.appE s n (Wl.fr d) = eA at *
      generalize Wl.fr d = F at *
      go_enter Tryz.func36, Tryz.ntmps36
      go_wp2_with fail
      refine HB.out.mono ?_
      rintro e w1 ⟨rfl, hg1⟩
      have HG1 := Lib.hid hg1
      clear hg1
      go_wp2_with fail
      refine (HP.out _ HG1.out).mono ?_
      rintro e w2 ⟨rfl, hr2, ht2⟩
      have HR2 := Lib.hid hr2
      have HT2 := Lib.hid ((Tr.gr HG1.out).trans ht2)
      clear hr2 ht2
      go_wp2
      go_ret2
      exact ⟨rfl, HR2.out, HT2.out⟩
  · have q : Wl.beg s n d = (0, 3, s) := by unfold Wl.beg; rw [if_neg e1]
    rw [q]
    rw [seal_no e1] at HB
    clear h q
    generalize (⟨(Sl.sealE 3 d.data.toList).1.toArray⟩ : ByteArray) = F at *
    go_enter Tryz.func36, Tryz.ntmps36
    go_wp2_with fail
    refine HB.out.mono ?_
    rintro e w1 ⟨rfl, hg1⟩
    have HG1 := Lib.hid hg1
    clear hg1
    go_wp2
    go_ret2
    exact ⟨rfl, HD.out.gr HG1.out, Tr.gr HG1.out⟩
end Go.Proofs.YtojmhhmpmpbpfaaGreatDoor
namespace Go.Proofs.YtojmhhmpmpbpfaaGreatDoor
open Go.RowKit Go.Maps
open Dk (Fl Fo St Ok)
variable {X : Nat → Prop} {u w w' w2 : World} {r : Nat} {s : St} {n : Int}

theorem own_lit1x (w : World) (x : ByteArray) (g : Nat) (hg : g = w.heap.size) : StrsAt (w.alloc (.cells #[.string x] 9)) (some ⟨g, 0, none⟩) [x] := by subst hg; exact own_lit1 w x
def RpI (X : Nat → Prop) (w w' : World) (r : Nat) (o : Wl.Op) (e : Ending) : Prop :=
  Rf X w' r o.st ∧ Tr w w' r ∧ match o.lg with
  | none => e = .returned (.tuple #[nilP, .slice none 0 0, .int .i64 o.er])
  | some _ => ∃ g ab cb, e = .returned (.tuple #[ptr g, .slice ab o.bo.length cb, .int .i64 o.er]) ∧ StrsAt w' ab (o.bo.map mkT)
theorem rfiles_in {fa : Option Addr} {fc : Nat} {ka : Option Addr} {kc : Nat} (h : RAt X w r fa fc ka kc s) : FsAt w fa fc s.L := by
  have h8 := h.ok.len
  refine ⟨h.row, by omega, h.cap, fun f hf => ?_⟩
  have hfo := h.ok.fo f hf
  have h1 := Dk.used_del h.ok.up (Dk.has_of hf)
  rw [Dk.get_of h.ok.up hf] at h1
  have := h.ok.fits; have := h.ok.r1
  have := hfo.n0
  have := hfo.n1
  exact ⟨by omega, by omega, by omega⟩
set_option maxHeartbeats 4000000 in
set_option maxRecDepth 100000 in
theorem ropen_dead (h : Rf X w r s) (d : ByteArray) (hd : s.dead = true) : Calls Tryz.prog 9 #[ptr r, .string d] w fun e w' => RpI X w w' r (Wl.opn s d) e := by
  rw [opn_dead hd]
  have HD := Lib.hid h
  obtain ⟨fa, fc, ka, kc, hra⟩ := h
  have hgn := hra.gn
  rw [hd] at hgn
  clear hra
  go_enter Tryz.func9, Tryz.ntmps9
  go_wp2
  go_ret3
  exact ⟨HD.out, Tr.refl _ _, rfl⟩
set_option maxHeartbeats 4000000 in
set_option maxRecDepth 100000 in
theorem ropen_err (h : Rf X w r s) (d : ByteArray) (hd : s.dead = false) (he : (Sg.look s.L).err ≠ 0) : Calls Tryz.prog 9 #[ptr r, .string d] w fun e w' => RpI X w w' r (Wl.opn s d) e := by
  rw [opn_err hd he]
  have HD := Lib.hid h
  obtain ⟨fa, fc, ka, kc, hra⟩ := h
  have hgn := hra.gn
  rw [hd] at hgn
  have hfl := hra.fl
  have HK := Lib.hid (rlook_any s.L fa fc w (rfiles_in hra))
  have heb : ((Sg.look s.L).err == 0) = false := by simpa using he
  clear hra
  generalize Sg.look s.L = Y at *
  obtain ⟨xn, xg, xb, xd, xe⟩ := Y
  simp only at *
  go_enter Tryz.func9, Tryz.ntmps9
  go_wp2_with fail
  refine HK.out.mono ?_
  rintro e w3 ⟨ab, cb, ad, cd, rfl, hI⟩
  have HG3 := Lib.hid hI.gr
  clear hI
  go_wp2
  go_ret3
  exact ⟨HD.out.gr HG3.out.alloc, Tr.gr HG3.out.alloc, rfl⟩
set_option maxHeartbeats 8000000 in
set_option maxRecDepth 100000 in
theorem ropen_none (h : Rf X w r s) (d : ByteArray) (hds : d.size ≤ 9223372036854775807) (hd : s.dead = false) (he : (Sg.look s.L).err = 0) (hn : (Sg.look s.L).num = -1) (hdl : (Sg.look s.L).drop.length ≤ 16) :
    Calls Tryz.prog 9 #[ptr r, .string d] w fun e w' => RpI X w w' r (Wl.opn s d) e := by
  rw [opn_none' hd he hn]
  have hrl := h.lt
  have HD := Lib.hid h
  obtain ⟨fa, fc, ka, kc, hra⟩ := h
  have hgn := hra.gn
  rw [hd] at hgn
  have hfl := hra.fl
  have HK := Lib.hid (rlook_any s.L fa fc w (rfiles_in hra))
  have HM : Hid (∀ w2 ad cap, Gr w w2 → IntsAt w2 ad (Sg.look s.L).drop → (∀ p, ad = some p → w.heap.size ≤ p.block) → Calls Tryz.prog 35 #[ptr r, .slice ad (Sg.look s.L).drop.length cap] w2 fun e w' => e = .returned (.int .i64 (Wl.drp s (Sg.look s.L).drop).1) ∧ Rf X w' r (Wl.drp s (Sg.look s.L).drop).2 ∧ Tr w2 w' r) := by
    intro w2 ad cap k ki kp
    exact rdrop_any (HD.out.gr k) ki (fun p e => by have := kp p e; omega) (by omega)
  have HB : Hid (∀ w2, Rf X w2 r (Wl.drp s (Sg.look s.L).drop).2 → Calls Tryz.prog 36 #[ptr r, .int .i64 1, .string d] w2 fun e w' => e = .returned (.tuple #[.int .i64 (Wl.beg (Wl.drp s (Sg.look s.L).drop).2 1 d).1, .int .i64 (Wl.beg (Wl.drp s (Sg.look s.L).drop).2 1 d).2.1]) ∧ Rf X w' r (Wl.beg (Wl.drp s (Sg.look s.L).drop).2 1 d).2.2 ∧ Tr w2 w' r) := fun w2 k => rbegin_any k d hds
  clear hra hdl
  unfold alnE alnS
  generalize hY : Sg.look s.L = Y at *
  obtain ⟨xn, xg, xb, xd, xe⟩ := Y
  simp only at *
  clear hY
  subst he hn
  generalize Wl.drp s xd = DP at *
  obtain ⟨eD, sD⟩ := DP
  simp only at *
  generalize Wl.beg sD 1 d = BG at *
  obtain ⟨zB, eB, sB⟩ := BG
  simp only at *
  generalize ((Wl.fr d).size : Int) = zz at *
  go_enter Tryz.func9, Tryz.ntmps9
  go_wp2_with fail
  refine HK.out.mono ?_
  rintro e w3 ⟨ab, cb, ad, cd, rfl, hI⟩
  have HG4 := Lib.hid (hI.gr.alloc (o := .cells #[.int .i64 (-1), .int .i64 (xg : Int), .slice ab xb.length cb, .slice ad xd.length cd] 80))
  have HDr := Lib.hid (hI.dr.gr ((Gr.refl w3).alloc (o := .cells #[.int .i64 (-1), .int .i64 (xg : Int), .slice ab xb.length cb, .slice ad xd.length cd] 80)))
  have HFd := Lib.hid hI.fd
  clear hI HK
  simp only at *
  go_wp2_with fail
  refine (HM.out _ _ _ HG4.out HDr.out HFd.out).mono ?_
  rintro e w5 ⟨rfl, hr5, ht5⟩
  have HR5 := Lib.hid hr5
  have HT5 := Lib.hid ((Tr.gr HG4.out).trans ht5)
  clear hr5 ht5 HM HDr HFd HG4 hfl hgn
  by_cases e1 : eD = 0
  · subst e1
    go_wp2_with fail
    refine (HB.out _ HR5.out).mono ?_
    rintro e w6 ⟨rfl, hr6, ht6⟩
    have HR6 := Lib.hid hr6
    have HT6 := Lib.hid (HT5.out.trans ht6)
    clear hr6 ht6 HB HR5 HT5
    have HMk : Hid ([d.data.toList].map mkT = [d]) := by show _ = _; simp [mkT]
    by_cases e2 : eB = 0
    · subst e2
      go_wp2
      go_ret3
      exact ⟨HR6.out.gr (Gr.refl _).alloc.alloc, HT6.out.trans (Tr.gr (Gr.refl _).alloc.alloc), _, _, _, rfl, by rw [HMk.out]; exact own_lit1x _ d _ (by simp)⟩
    · have e2b : (eB == 0) = false := by simpa using e2
      go_wp2
      go_ret3
      exact ⟨HR6.out, HT6.out, rfl⟩
  · have e1b : (eD == 0) = false := by simpa using e1
    clear HB
    go_wp2
    go_ret3
    exact ⟨HR5.out, HT5.out, rfl⟩
set_option maxHeartbeats 8000000 in
set_option maxRecDepth 100000 in
theorem ropen_some (h : Rf X w r s) (d : ByteArray) (hd : s.dead = false) (he : (Sg.look s.L).err = 0) (hn : 0 ≤ (Sg.look s.L).num) (hh : Dk.has s.L (Sg.look s.L).num = true) (hdl : (Sg.look s.L).drop.length ≤ 16) :
    Calls Tryz.prog 9 #[ptr r, .string d] w fun e w' => RpI X w w' r (Wl.opn s d) e := by
  rw [opn_some' hd he hn]
  have hrl := h.lt
  have HD := Lib.hid h
  obtain ⟨fa, fc, ka, kc, hra⟩ := h
  have hgn := hra.gn
  rw [hd] at hgn
  have hfl := hra.fl
  have HK := Lib.hid (rlook_any s.L fa fc w (rfiles_in hra))
  have hE : fndE s (Sg.look s.L).num = 0 := by unfold fndE; rw [hd, hh]; rfl
  have hF : fndF s (Sg.look s.L).num = Dk.get s.L (Sg.look s.L).num := by unfold fndF; rw [hd]; rfl
  have HRd : Hid (∀ w2, Gr w w2 → Calls Tryz.prog 37 #[ptr r, .int .i64 (Sg.look s.L).num] w2 fun e w' => e = .returned (.tuple #[.string (Dk.get s.L (Sg.look s.L).num).d, .int .i64 0]) ∧ w' = w2) := by
    intro w2 k
    have := rread_any (hra.gr k) (Sg.look s.L).num
    rwa [hE, hF] at this
  have HC : Hid (∀ w2, Gr w w2 → Calls Tryz.prog 38 #[ptr r, .int .i64 2, .int .i64 (Sg.look s.L).num, .int .i64 ((Sg.look s.L).good : Int)] w2 fun e w' => e = .returned (.int .i64 (Dk.stpE s 2 (Sg.look s.L).num (Sg.look s.L).good)) ∧ Rf X w' r (Dk.stpS s 2 (Sg.look s.L).num (Sg.look s.L).good) ∧ Tr w2 w' r) := fun w2 k => rstep2_any (hra.gr k) _ _
  have HM : Hid (∀ sx w2 ad cap, Rf X w2 r sx → IntsAt w2 ad (Sg.look s.L).drop → (∀ p, ad = some p → w.heap.size ≤ p.block) → Calls Tryz.prog 35 #[ptr r, .slice ad (Sg.look s.L).drop.length cap] w2 fun e w' => e = .returned (.int .i64 (Wl.drp sx (Sg.look s.L).drop).1) ∧ Rf X w' r (Wl.drp sx (Sg.look s.L).drop).2 ∧ Tr w2 w' r) := by
    intro sx w2 ad cap k ki kp
    exact rdrop_any k ki (fun p e => by have := kp p e; omega) (by omega)
  have hds : (Dk.get s.L (Sg.look s.L).num).d.size ≤ 200000 := by
    obtain ⟨g1, g2⟩ := Dk.get_mem hh
    have h1 := Dk.used_del hra.ok.up hh
    have := hra.ok.fits; have := hra.ok.r1; omega
  have hnb : decide ((Sg.look s.L).num < 0) = false := decide_eq_false (by omega)
  have hnc : ¬ (Sg.look s.L).num < 0 := by omega
  clear hra hdl hh hE hF
  unfold menE menS Wl.trm
  generalize hY : Sg.look s.L = Y at *
  obtain ⟨xn, xg, xb, xd, xe⟩ := Y
  simp only at *
  clear hY
  subst he
  generalize Dk.get s.L xn = F0 at *
  obtain ⟨f0n, f0d, f0y⟩ := F0
  simp only at *
  by_cases e0 : xg < f0d.size
  · simp only [if_pos e0]
    have e0b : decide ((xg : Int) < (f0d.size : Int)) = true := decide_eq_true (by omega)
    generalize Dk.stpE s 2 xn xg = eC at *
    generalize Dk.stpS s 2 xn xg = sC at *
    replace HM := Lib.hid (HM.out sC)
    generalize Wl.drp sC xd = DP at *
    obtain ⟨eD, sD⟩ := DP
    simp only at *
    go_enter Tryz.func9, Tryz.ntmps9
    go_wp2_with fail
    refine HK.out.mono ?_
    rintro e w3 ⟨ab, cb, ad, cd, rfl, hI⟩
    have HG4 := Lib.hid (hI.gr.alloc (o := .cells #[.int .i64 xn, .int .i64 (xg : Int), .slice ab xb.length cb, .slice ad xd.length cd] 80))
    have HDr := Lib.hid (hI.dr.gr ((Gr.refl w3).alloc (o := .cells #[.int .i64 xn, .int .i64 (xg : Int), .slice ab xb.length cb, .slice ad xd.length cd] 80)))
    have HBo := Lib.hid (hI.bo.gr ((Gr.refl w3).alloc (o := .cells #[.int .i64 xn, .int .i64 (xg : Int), .slice ab xb.length cb, .slice ad xd.length cd] 80)))
    have HFd := Lib.hid hI.fd
    have HFb := Lib.hid hI.fb
    have HF0 := Lib.hid (Bx4.new w3 (.int .i64 xn) (.int .i64 (xg : Int)) (.slice ab xb.length cb) (.slice ad xd.length cd) 80 w3.heap.size rfl)
    have hs3 := hI.gr.size
    clear hI HK hfl hgn
    simp only at *
    go_wp2_with (go_at_call 37; refine (HRd.out _ HG4.out).mono ?_; rintro e w' ⟨rfl, hw⟩; obtain rfl := hw.symm; clear hw)
    refine (HC.out _ HG4.out).mono ?_
    rintro e w5 ⟨rfl, hr5, ht5⟩
    have HR5 := Lib.hid hr5
    have HT5 := Lib.hid ((Tr.gr HG4.out).trans ht5)
    have HF5 : Hid (Bx4 w5 w3.heap.size (.int .i64 xn) (.int .i64 (xg : Int)) (.slice ab xb.length cb) (.slice ad xd.length cd)) := Bx4.keep HF0.out (ht5.block _ HF0.out.lt (fun e => by injection e with e; omega))
    have HDr5 := Lib.hid (Tr.ints HDr.out ht5 (fun p e => by have := HFd.out p e; omega))
    have HBo5 := Lib.hid (Tr.strs HBo.out ht5 (fun p e => by have := HFb.out p e; omega))
    clear hr5 ht5 HC HDr HBo HF0 HG4 HRd
    have q0 := HF5.out.c0
    have q1 := HF5.out.c1
    have q2 := HF5.out.c2
    have q3 := HF5.out.c3
    have hxlt := HF5.out.lt
    by_cases e1 : eC = 0
    · subst e1
      go_wp2_with fail
      refine (HM.out _ _ _ HR5.out HDr5.out HFd.out).mono ?_
      rintro e w6 ⟨rfl, hr6, ht6⟩
      have HR6 := Lib.hid hr6
      have HT6 := Lib.hid (HT5.out.trans ht6)
      have HF6 : Hid (Bx4 w6 w3.heap.size (.int .i64 xn) (.int .i64 (xg : Int)) (.slice ab xb.length cb) (.slice ad xd.length cd)) := Bx4.keep HF5.out (ht6.block _ HF5.out.lt (fun e => by injection e with e; omega))
      have HBo6 := Lib.hid (Tr.strs HBo5.out ht6 (fun p e => by have := HFb.out p e; omega))
      clear hr6 ht6 HM HDr5 HBo5 HF5 q0 q1 q2 q3 hxlt
      have q0 := HF6.out.c0
      have q1 := HF6.out.c1
      have q2 := HF6.out.c2
      have hxlt := HF6.out.lt
      by_cases e2 : eD = 0
      · subst e2
        go_upto_region 22 with fail
        go_region
        go_wp2
        go_ret3
        exact ⟨HR6.out.gr (Gr.refl _).alloc.drew, HT6.out.trans (Tr.gr (Gr.refl _).alloc.drew), _, _, _, rfl, HBo6.out.gr (Gr.refl _).alloc.drew⟩
      · have e2b : (eD == 0) = false := by simpa using e2
        go_wp2
        go_ret3
        exact ⟨HR6.out, HT6.out, rfl⟩
    · have e1b : (eC == 0) = false := by simpa using e1
      clear HM
      go_wp2
      go_ret3
      exact ⟨HR5.out, HT5.out, rfl⟩
  · simp only [if_neg e0]
    have e0b : decide ((xg : Int) < (f0d.size : Int)) = false := decide_eq_false (by omega)
    have e0c : ¬ (xg : Int) < (f0d.size : Int) := by omega
    clear HC
    replace HM := Lib.hid (HM.out s)
    generalize Wl.drp s xd = DP at *
    obtain ⟨eD, sD⟩ := DP
    simp only at *
    go_enter Tryz.func9, Tryz.ntmps9
    go_wp2_with fail
    refine HK.out.mono ?_
    rintro e w3 ⟨ab, cb, ad, cd, rfl, hI⟩
    have HG4 := Lib.hid (hI.gr.alloc (o := .cells #[.int .i64 xn, .int .i64 (xg : Int), .slice ab xb.length cb, .slice ad xd.length cd] 80))
    have HDr := Lib.hid (hI.dr.gr ((Gr.refl w3).alloc (o := .cells #[.int .i64 xn, .int .i64 (xg : Int), .slice ab xb.length cb, .slice ad xd.length cd] 80)))
    have HBo := Lib.hid (hI.bo.gr ((Gr.refl w3).alloc (o := .cells #[.int .i64 xn, .int .i64 (xg : Int), .slice ab xb.length cb, .slice ad xd.length cd] 80)))
    have HFd := Lib.hid hI.fd
    have HFb := Lib.hid hI.fb
    have HF0 := Lib.hid (Bx4.new w3 (.int .i64 xn) (.int .i64 (xg : Int)) (.slice ab xb.length cb) (.slice ad xd.length cd) 80 w3.heap.size rfl)
    have hs3 := hI.gr.size
    clear hI HK hfl hgn
    simp only at *
    go_wp2_with (go_at_call 37; refine (HRd.out _ HG4.out).mono ?_; rintro e w' ⟨rfl, hw⟩; obtain rfl := hw.symm; clear hw)
    refine (HM.out _ _ _ (HD.out.gr HG4.out) HDr.out HFd.out).mono ?_
    rintro e w6 ⟨rfl, hr6, ht6⟩
    have HR6 := Lib.hid hr6
    have HT6 := Lib.hid ((Tr.gr HG4.out).trans ht6)
    have HF6 : Hid (Bx4 w6 w3.heap.size (.int .i64 xn) (.int .i64 (xg : Int)) (.slice ab xb.length cb) (.slice ad xd.length cd)) := Bx4.keep HF0.out (ht6.block _ HF0.out.lt (fun e => by injection e with e; omega))
    have HBo6 := Lib.hid (Tr.strs HBo.out ht6 (fun p e => by have := HFb.out p e; omega))
    clear hr6 ht6 HM HDr HBo HF0 HG4 HRd
    have q0 := HF6.out.c0
    have q1 := HF6.out.c1
    have q2 := HF6.out.c2
    have hxlt := HF6.out.lt
    by_cases e2 : eD = 0
    · subst e2
      go_upto_region 22 with fail
      go_region
      go_wp2
      go_ret3
      exact ⟨HR6.out.gr (Gr.refl _).alloc.drew, HT6.out.trans (Tr.gr (Gr.refl _).alloc.drew), _, _, _, rfl, HBo6.out.gr (Gr.refl _).alloc.drew⟩
    · have e2b : (eD == 0) = false := by simpa using e2
      go_wp2
      go_ret3
      exact ⟨HR6.out, HT6.out, rfl⟩
theorem ropen_any (h : Rf X w r s) (d : ByteArray) (hds : d.size ≤ 9223372036854775807) : Calls Tryz.prog 9 #[ptr r, .string d] w fun e w' => RpI X w w' r (Wl.opn s d) e := by
  cases hd : s.dead with
  | true => exact ropen_dead h d hd
  | false =>
    rcases look_or h.ok with he | ⟨he, hdr, hdl, hn | ⟨hn, hn1, hh⟩⟩
    · exact ropen_err h d hd he
    · exact ropen_none h d hds hd he hn hdl
    · exact ropen_some h d hd he hn hh hdl
end Go.Proofs.YtojmhhmpmpbpfaaGreatDoor
