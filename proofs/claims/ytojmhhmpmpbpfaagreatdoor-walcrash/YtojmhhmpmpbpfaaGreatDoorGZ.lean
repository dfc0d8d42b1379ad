/- Parts of these proofs, laid together. -/
import Derived.Test.YtojmhhmpmpbpfaaGreatDoorGU
import Derived.Test.YtojmhhmpmpbpfaaGreatDoorGY
import Derived.BigRegion
namespace Go.Proofs.YtojmhhmpmpbpfaaGreatDoor
open Go.RowKit Go.Maps
open Dk (Fl Fo St Ok)
variable {a u w w' w2 : World} {b m f g x : Nat} {A : Nat → Int} {s : St} {n z : Int} {l : Wl.Lg}

def OpI (w w' : World) (b m : Nat) (o : Wl.Op) (e : Ending) : Prop :=
  FaR w w' b m o.st ∧ match o.lg with
  | none => e = .returned (.tuple #[nilP, .slice none 0 0, .int .i64 o.er])
  | some l => ∃ g ab cb, e = .returned (.tuple #[ptr g, .slice ab o.bo.length cb, .int .i64 o.er]) ∧ w.heap.size ≤ g ∧ LgAt w' g b l ∧ StrsAt w' ab (o.bo.map mkT) ∧ (∀ p, ab = some p → w.heap.size ≤ p.block) ∧ (o.bo ≠ [] → ∀ p, ab = some p → p.block ≠ g)
/- what is found on a disk -/
theorem nums_rng (h : ∀ f ∈ s.L, Fo f) {L : List Fl} (hL : ∀ f ∈ L, f ∈ s.L) : ∀ y ∈ Sg.nums L, 0 ≤ y ∧ y ≤ 1000000 := by
  intro y hy
  obtain ⟨f, hf, rfl⟩ := List.mem_map.1 hy
  have := h f (hL f hf)
  exact ⟨this.n0, this.n1⟩
theorem look_or (h : Ok s) : (Sg.look s.L).err ≠ 0 ∨ ((Sg.look s.L).err = 0 ∧ (∀ y ∈ (Sg.look s.L).drop, 0 ≤ y ∧ y ≤ 1000000) ∧ (Sg.look s.L).drop.length ≤ 16 ∧ ((Sg.look s.L).num = -1 ∨ (0 ≤ (Sg.look s.L).num ∧ (Sg.look s.L).num ≤ 1000000 ∧ Dk.has s.L (Sg.look s.L).num = true))) := by
  have h8 := h.len
  unfold Sg.look
  split
  · split
    · split
      · refine Or.inr ⟨rfl, nums_rng h.fo (fun f hf => hf), by simp [Sg.nums]; omega, Or.inl rfl⟩
      · rename_i h1 h2 h3
        rcases Sg.lw_range s.L s.L.length with (e | e) | ⟨p, hp, e, _⟩
        · rw [e] at h3; exact absurd rfl h3
        · rw [e] at h2; exact absurd h2 (by decide)
        · rw [e]
          show (Sg.found s.L ((p : Int).toNat)).err ≠ 0 ∨ _
          rw [Int.toNat_natCast]
          unfold Sg.found
          split
          · have hat : Sg.at' s.L p ∈ s.L := by
              have : Sg.at' s.L p = s.L[p] := by simp [Sg.at', hp]
              rw [this]; exact List.getElem_mem hp
            refine Or.inr ⟨rfl, ?_, ?_, Or.inr ⟨(h.fo _ hat).n0, (h.fo _ hat).n1, Dk.has_of hat⟩⟩
            · intro y hy
              simp only [Sg.drops, List.mem_append] at hy
              rcases hy with hy | hy
              · exact nums_rng h.fo (fun f hf => List.mem_of_mem_take hf) y hy
              · exact nums_rng h.fo (fun f hf => List.mem_of_mem_drop hf) y hy
            · simp [Sg.drops, Sg.nums]; omega
          · exact Or.inl (by decide)
    · exact Or.inl (by decide)
  · exact Or.inl (by decide)
theorem files_in (h : DAt w b m A s) {ad : Option Addr} {cap : Nat} (hr : RowAt flf w2 ad s.L) (hc : s.L.length ≤ cap) : FsAt w2 ad cap s.L := by
  have h8 := h.ok.len
  refine ⟨hr, by omega, hc, fun f hf => ?_⟩
  have hfo := h.ok.fo f hf
  have h1 := Dk.used_del h.ok.up (Dk.has_of hf)
  rw [Dk.get_of h.ok.up hf] at h1
  have := h.ok.fits; have := h.ok.r1
  have := hfo.n0
  have := hfo.n1
  exact ⟨by omega, by omega, by omega⟩
theorem opn_dead {d : ByteArray} (hd : s.dead = true) : Wl.opn s d = ⟨none, [], 150, s⟩ := by unfold Wl.opn; rw [if_pos hd]
theorem opn_err {d : ByteArray} (hd : s.dead = false) (he : (Sg.look s.L).err ≠ 0) : Wl.opn s d = ⟨none, [], (Sg.look s.L).err, s⟩ := by unfold Wl.opn; rw [if_neg (by rw [hd]; decide), if_neg he]
set_option maxHeartbeats 4000000 in
set_option maxRecDepth 100000 in
theorem open_dead (h : DAt w b m A s) (d : ByteArray) (hd : s.dead = true) : Calls Tryz.prog 8 #[ptr b, .string d] w fun e w' => OpI w w' b m (Wl.opn s d) e := by
  rw [opn_dead hd]
  have HP := Lib.hid (wpower_any h)
  rw [hd] at HP
  have HD := Lib.hid h
  clear h
  go_enter Tryz.func8, Tryz.ntmps8
  go_wp2_with fail
  refine HP.out.mono ?_
  rintro e w1 ⟨rfl, hg1⟩
  have HG1 := Lib.hid hg1
  clear hg1
  go_wp2
  go_ret3
  exact ⟨(FaR.refl HD.out).up HG1.out, rfl⟩
set_option maxHeartbeats 4000000 in
set_option maxRecDepth 100000 in
theorem open_err (h : DAt w b m A s) (hT : Tab w) (d : ByteArray) (hd : s.dead = false) (he : (Sg.look s.L).err ≠ 0) : Calls Tryz.prog 8 #[ptr b, .string d] w fun e w' => OpI w w' b m (Wl.opn s d) e := by
  rw [opn_err hd he]
  have HP := Lib.hid (wpower_any h)
  rw [hd] at HP
  have HD := Lib.hid h
  have HI : Hid (∀ w1, Gr w w1 → Calls Tryz.prog 12 #[ptr b] w1 fun e w' => ImQ w1 w' s.L e) := fun w1 k => image_cap (h.gr k)
  have HK : Hid (∀ w2 ad cap, Gr w w2 → RowAt flf w2 ad s.L → s.L.length ≤ cap → Calls Tryz.prog 30 #[.slice ad s.L.length cap] w2 fun e w' => LkR (Sg.look s.L) w2 e w') := fun w2 ad cap k hr hc => look_any s.L ad cap w2 (hT.gr k) (files_in h hr hc)
  have heb : ((Sg.look s.L).err == 0) = false := by simpa using he
  clear h hT
  generalize Sg.look s.L = X at *
  obtain ⟨xn, xg, xb, xd, xe⟩ := X
  simp only at *
  go_enter Tryz.func8, Tryz.ntmps8
  go_wp2_with fail
  refine HP.out.mono ?_
  rintro e w1 ⟨rfl, hg1⟩
  have HG1 := Lib.hid hg1
  clear hg1
  go_wp2_with fail
  refine (HI.out _ HG1.out).mono ?_
  rintro e w2 ⟨ia, ic, rfl, hrow, _, hg2, hic⟩
  have HG2 := Lib.hid (HG1.out.trans hg2)
  have HRow := Lib.hid hrow
  clear hg2 hrow
  go_wp2_with fail
  refine (HK.out _ _ _ HG2.out HRow.out hic).mono ?_
  rintro e w3 ⟨ab, cb, ad, cd, rfl, hI⟩
  have HG3 := Lib.hid (HG2.out.trans hI.gr)
  clear hI
  go_wp2
  go_ret3
  exact ⟨(FaR.refl HD.out).up HG3.out.alloc, rfl⟩
theorem opn_some' {d : ByteArray} (hd : s.dead = false) (he : (Sg.look s.L).err = 0) (hn : 0 ≤ (Sg.look s.L).num) :
    Wl.opn s d = if menE s (Sg.look s.L).num (Sg.look s.L).good (Sg.look s.L).drop = 0 then ⟨some ⟨(Sg.look s.L).num, (Sg.look s.L).good, false⟩, (Sg.look s.L).bodies, 0, menS s (Sg.look s.L).num (Sg.look s.L).good (Sg.look s.L).drop⟩
      else ⟨none, [], menE s (Sg.look s.L).num (Sg.look s.L).good (Sg.look s.L).drop, menS s (Sg.look s.L).num (Sg.look s.L).good (Sg.look s.L).drop⟩ := by
  unfold Wl.opn menE menS
  rw [if_neg (by rw [hd]; decide), if_pos he, if_neg (by omega)]
  by_cases h1 : (Wl.trm s (Sg.look s.L).num (Sg.look s.L).good).1 = 0
  · simp only [if_pos h1]
  · simp only [if_neg h1]
theorem opn_none' {d : ByteArray} (hd : s.dead = false) (he : (Sg.look s.L).err = 0) (hn : (Sg.look s.L).num = -1) :
    Wl.opn s d = if alnE s 1 d (Sg.look s.L).drop = 0 then ⟨some ⟨1, (Wl.fr d).size, false⟩, [d.data.toList], 0, alnS s 1 d (Sg.look s.L).drop⟩
      else ⟨none, [], alnE s 1 d (Sg.look s.L).drop, alnS s 1 d (Sg.look s.L).drop⟩ := by
  unfold Wl.opn alnE alnS
  rw [if_neg (by rw [hd]; decide), if_pos he, if_pos (by omega)]
  by_cases h1 : (Wl.drp s (Sg.look s.L).drop).1 = 0
  · simp only [if_pos h1]
    by_cases h2 : (Wl.beg (Wl.drp s (Sg.look s.L).drop).2 1 d).2.1 = 0
    · simp only [if_pos h2]
      rw [beg_fr h2]
    · simp only [if_neg h2]
  · simp only [if_neg h1]
theorem lg_new (w : World) (b : Nat) (l : Wl.Lg) : LgAt (w.alloc (.cells #[ptr b, .int .i64 l.n, .bool l.br] 77)) w.heap.size b l := Bx3.new w _ _ _ _ _ rfl
set_option maxHeartbeats 8000000 in
set_option maxRecDepth 100000 in
theorem open_some (h : DAt w b m A s) (hT : Tab w) (d : ByteArray) (hd : s.dead = false) (he : (Sg.look s.L).err = 0) (hn : 0 ≤ (Sg.look s.L).num) (hn1 : (Sg.look s.L).num ≤ 1000000) (hdr : ∀ y ∈ (Sg.look s.L).drop, 0 ≤ y ∧ y ≤ 1000000) (hdl : (Sg.look s.L).drop.length ≤ 16) :
    Calls Tryz.prog 8 #[ptr b, .string d] w fun e w' => OpI w w' b m (Wl.opn s d) e := by
  rw [opn_some' hd he hn]
  have HP := Lib.hid (wpower_any h)
  rw [hd] at HP
  have HI : Hid (∀ w1, Gr w w1 → Calls Tryz.prog 12 #[ptr b] w1 fun e w' => ImQ w1 w' s.L e) := fun w1 k => image_cap (h.gr k)
  have HK : Hid (∀ w2 ad cap, Gr w w2 → RowAt flf w2 ad s.L → s.L.length ≤ cap → Calls Tryz.prog 30 #[.slice ad s.L.length cap] w2 fun e w' => LkR (Sg.look s.L) w2 e w') := fun w2 ad cap k hr hc => look_any s.L ad cap w2 (hT.gr k) (files_in h hr hc)
  have hbl := h.lt
  have hml := h.fl.lt
  have HM : Hid (∀ w2 g ad cap, Gr w w2 → Fa w2 g b (Sg.look s.L).num → IntsAt w2 ad (Sg.look s.L).drop → (∀ p, ad = some p → w.heap.size ≤ p.block) → Calls Tryz.prog 33 #[ptr g, .int .i64 ((Sg.look s.L).good : Int), .slice ad (Sg.look s.L).drop.length cap] w2 fun e w' => e = .returned (.int .i64 (menE s (Sg.look s.L).num (Sg.look s.L).good (Sg.look s.L).drop)) ∧ FaR w2 w' b m (menS s (Sg.look s.L).num (Sg.look s.L).good (Sg.look s.L).drop)) := by
    intro w2 g ad cap k kf ki kp
    exact mend_any (h.gr k) kf (by omega) (by omega) ki (fun p e => by have := kp p e; exact ⟨by omega, by omega⟩) (by omega) (fun x hx => by have := hdr x hx; exact ⟨by omega, by omega⟩)
  have hnb : ((Sg.look s.L).num == -1) = false := by
    have : ¬ (Sg.look s.L).num = -1 := by omega
    simpa using this
  have HD : Hid (∀ w2, Gr w w2 → DAt w2 b m A s) := fun w2 k => h.gr k
  clear h hT hdr hdl
  generalize menE s (Sg.look s.L).num (Sg.look s.L).good (Sg.look s.L).drop = eM at *
  generalize menS s (Sg.look s.L).num (Sg.look s.L).good (Sg.look s.L).drop = sM at *
  generalize Sg.look s.L = X at *
  obtain ⟨xn, xg, xb, xd, xe⟩ := X
  simp only at *
  subst he
  go_enter Tryz.func8, Tryz.ntmps8
  go_wp2_with fail
  refine HP.out.mono ?_
  rintro e w1 ⟨rfl, hg1⟩
  have HG1 := Lib.hid hg1
  clear hg1
  go_wp2_with fail
  refine (HI.out _ HG1.out).mono ?_
  rintro e w2 ⟨ia, ic, rfl, hrow, _, hg2, hic⟩
  have HG2 := Lib.hid (HG1.out.trans hg2)
  have HRow := Lib.hid hrow
  clear hg2 hrow
  go_wp2_with fail
  refine (HK.out _ _ _ HG2.out HRow.out hic).mono ?_
  rintro e w3 ⟨ab, cb, ad, cd, rfl, hI⟩
  have hs2 := HG2.out.size
  have HG3 := Lib.hid (HG2.out.trans hI.gr)
  have HBo := Lib.hid hI.bo
  have HDr := Lib.hid hI.dr
  have HFb : Hid (∀ p, ab = some p → w.heap.size ≤ p.block) := fun p e => Nat.le_trans hs2 (hI.fb p e)
  have HFd : Hid (∀ p, ad = some p → w.heap.size ≤ p.block) := fun p e => Nat.le_trans hs2 (hI.fd p e)
  clear hI hic hs2 HI HK HP HG1 HG2 HRow
  simp only at *
  go_upto_region 7 with fail
  go_region
  have HLg := Lib.hid ((lg_new (w3.alloc (.cells #[.int .i64 xn, .int .i64 (xg : Int), .slice ab xb.length cb, .slice ad xd.length cd] 71)) b ⟨xn, xg, false⟩).gr (Gr.refl _).drew)
  have HG4 := Lib.hid (((HG3.out.alloc (o := .cells #[.int .i64 xn, .int .i64 (xg : Int), .slice ab xb.length cb, .slice ad xd.length cd] 71)).alloc (o := .cells #[ptr b, .int .i64 xn, .bool false] 77)).drew)
  have HG5 := Lib.hid ((((Gr.refl w3).alloc (o := .cells #[.int .i64 xn, .int .i64 (xg : Int), .slice ab xb.length cb, .slice ad xd.length cd] 71)).alloc (o := .cells #[ptr b, .int .i64 xn, .bool false] 77)).drew)
  have HF0 := Lib.hid ((Bx4.new w3 (.int .i64 xn) (.int .i64 (xg : Int)) (.slice ab xb.length cb) (.slice ad xd.length cd) 71 w3.heap.size rfl).gr ((Gr.refl _).alloc (o := .cells #[ptr b, .int .i64 xn, .bool false] 77)).drew)
  have hs1 : (w3.alloc (.cells #[.int .i64 xn, .int .i64 (xg : Int), .slice ab xb.length cb, .slice ad xd.length cd] 71)).heap.size = w3.heap.size + 1 := by simp
  have hs3 := HG3.out.size
  rw [hs1] at HLg
  have HBl : Hid (xb ≠ [] → ∀ p, ab = some p → p.block < w3.heap.size) := by
    intro hx p e
    obtain ⟨q, off, e2, hlt, _⟩ := HBo.out 0 (by cases xb with | nil => exact absurd rfl hx | cons _ _ => simp)
    rw [e] at e2
    cases e2
    exact hlt
  have HBo4 := Lib.hid (HBo.out.gr HG5.out)
  have HDr4 := Lib.hid (HDr.out.gr HG5.out)
  clear HBo HDr HG5 HG3 hs1
  generalize hW : ((w3.alloc (.cells #[.int .i64 xn, .int .i64 (xg : Int), .slice ab xb.length cb, .slice ad xd.length cd] 71)).alloc (.cells #[ptr b, .int .i64 xn, .bool false] 77)).drew = W4 at *
  clear hW
  generalize w3.heap.size = f0 at *
  clear w3
  have c0 := HF0.out.c0
  have c3 := HF0.out.c3
  have HS : Hid (∀ w', Td W4 w' b m → w'.cell? ⟨f0, 1, none⟩ = some (.int .i64 (xg : Int)) ∧ w'.cell? ⟨f0, 3, none⟩ = some (.slice ad xd.length cd)) := fun w' k => ⟨k.cell (by omega) (by omega) HF0.out.c1, k.cell (by omega) (by omega) HF0.out.c3⟩
  go_upto_region 11 with fail
  refine wp_region_held_drew (S := (fun w' => w'.cell? ⟨f0, 1, none⟩ = some (.int .i64 (xg : Int)) ∧ w'.cell? ⟨f0, 3, none⟩ = some (.slice ad xd.length cd))) (by kernel_rfl) (by first | with_reducible exact hHeld | with_reducible exact HS.out _ HT5.out | with_reducible exact HS.out _ (Td.gr (Gr.refl W4).drew)) (fun hHeld => ?_)
  refine take_yes 0 52 (v := ?_) rfl rfl (by kernel_rfl) (by kernel_rfl) (by kernel_rfl) (fun _ _ _ h => h) (by rfl) ?_ hHeld ?_
  rotate_left
  · (intro w hSw; (try dsimp only at hSw); go_simp; try with_reducible rfl)
  simp only [Act.put, List.setIfInBounds_toArray, List.set_cons_zero, List.set_cons_succ]
  refine take_yes 1 53 (v := ?_) rfl rfl (by kernel_rfl) (by kernel_rfl) (by kernel_rfl) (fun _ _ _ h => h) (by rfl) ?_ hHeld ?_
  rotate_left
  · (intro w hSw; (try dsimp only at hSw); go_simp; try with_reducible rfl)
  simp only [Act.put, List.setIfInBounds_toArray, List.set_cons_zero, List.set_cons_succ]
  refine take_yes 2 54 (v := ?_) rfl rfl (by kernel_rfl) (by kernel_rfl) (by kernel_rfl) (fun _ _ _ h => h) (by rfl) ?_ hHeld ?_
  rotate_left
  · (intro w hSw; (try dsimp only at hSw); go_simp; try with_reducible rfl)
  simp only [Act.put, List.setIfInBounds_toArray, List.set_cons_zero, List.set_cons_succ]
  refine take_yes 3 55 (v := ?_) rfl rfl (by kernel_rfl) (by kernel_rfl) (by kernel_rfl) (fun _ _ _ h => h) (by rfl) ?_ hHeld ?_
  rotate_left
  · (intro w hSw; (try dsimp only at hSw); go_simp; try with_reducible rfl)
  simp only [Act.put, List.setIfInBounds_toArray, List.set_cons_zero, List.set_cons_succ]
  refine take_yes 4 56 (v := ?_) rfl rfl (by kernel_rfl) (by kernel_rfl) (by kernel_rfl) (fun _ _ _ h => h) (by rfl) ?_ hHeld ?_
  rotate_left
  · (intro w hSw; (try dsimp only at hSw); go_simp; try with_reducible rfl)
  simp only [Act.put, List.setIfInBounds_toArray, List.set_cons_zero, List.set_cons_succ]
  refine take_yes 5 57 (v := ?_) rfl rfl (by kernel_rfl) (by kernel_rfl) (by kernel_rfl) (fun _ _ _ h => h) (by rfl) ?_ hHeld ?_
  rotate_left
  · (intro w hSw; (try dsimp only at hSw); go_simp; try with_reducible rfl)
  simp only [Act.put, List.setIfInBounds_toArray, List.set_cons_zero, List.set_cons_succ]
  refine take_yes 6 58 (v := ?_) rfl rfl (by kernel_rfl) (by kernel_rfl) (by kernel_rfl) (fun _ _ _ h => h) (by rfl) ?_ hHeld ?_
  rotate_left
  · (intro w hSw; (try dsimp only at hSw); go_simp; try with_reducible rfl)
  simp only [Act.put, List.setIfInBounds_toArray, List.set_cons_zero, List.set_cons_succ]
  refine wpAnyH_ready (rs := [7]) (by kernel_rfl) (by simp) (AllReadyH.cons rfl (fun K hK => ?_) AllReadyH.nil)
  go_simp
  (go_at_call 33; refine (HM.out _ _ _ _ HG4.out.drew (Fa.gr (LgAt.fa (l := ⟨xn, xg, false⟩) HLg.out) (Gr.refl _).drew) (HDr4.out.gr (Gr.refl _).drew) HFd.out).mono ?_; rintro e w5 ⟨rfl, hr5⟩; have HT5 := Lib.hid ((Td.gr (Gr.refl W4).drew).trans hr5.2); have HR5 := Lib.hid hr5.1; clear hr5)
  (try go_wp2_with fail)
  refine hK.out _ _ (by first | with_reducible exact hHeld | with_reducible exact HS.out _ HT5.out | with_reducible exact HS.out _ (Td.gr (Gr.refl W4).drew)) (fun hHeldN => ?_)
  clear hHeld hK K
  have hHeld := hHeldN
  clear hHeldN
  refine take_yes 8 9 (v := ?_) rfl rfl (by kernel_rfl) (by kernel_rfl) (by kernel_rfl) (fun _ _ _ h => h) (by rfl) ?_ hHeld ?_
  rotate_left
  · (intro w hSw; (try dsimp only at hSw); go_simp; try with_reducible rfl)
  simp only [Act.put, List.setIfInBounds_toArray, List.set_cons_zero, List.set_cons_succ]
  refine wpAnyH_done (by kernel_rfl) ?_ _
  clear hHeld
  have HQ : Hid (FaR w w5 b m sM) := ⟨HR5.out, (Td.gr HG4.out).trans HT5.out⟩
  have HLg5 := Lib.hid (LgAt.td (l := ⟨xn, xg, false⟩) HLg.out (HD.out _ HG4.out) HT5.out)
  have HBo5 := Lib.hid (Td.strs HBo4.out HT5.out (fun p e => by have := HFb.out p e; exact ⟨by omega, by omega⟩))
  clear HLg HBo4 HDr4 HM HF0 HS HR5 HT5
  by_cases e1 : eM = 0
  · subst e1
    go_wp2
    go_ret3
    exact ⟨HQ.out, _, _, _, rfl, by omega, HLg5.out, HBo5.out, HFb.out, fun hx p e => by have := HBl.out hx p e; omega⟩
  · have e1b : (eM == 0) = false := by simpa using e1
    go_wp2
    go_ret3
    exact ⟨HQ.out, rfl⟩
set_option maxHeartbeats 8000000 in
set_option maxRecDepth 100000 in
theorem open_none (h : DAt w b m A s) (hTu : Tab u) (hu : Gr u w) (hub : u.heap.size ≤ b) (hum : u.heap.size ≤ m) (d : ByteArray) (hds : d.size ≤ 140737488355328) (hd : s.dead = false) (he : (Sg.look s.L).err = 0) (hn : (Sg.look s.L).num = -1) (hdr : ∀ y ∈ (Sg.look s.L).drop, 0 ≤ y ∧ y ≤ 1000000) (hdl : (Sg.look s.L).drop.length ≤ 16) :
    Calls Tryz.prog 8 #[ptr b, .string d] w fun e w' => OpI w w' b m (Wl.opn s d) e := by
  have hT := hTu.gr hu
  rw [opn_none' hd he hn]
  have HP := Lib.hid (wpower_any h)
  rw [hd] at HP
  have HI : Hid (∀ w1, Gr w w1 → Calls Tryz.prog 12 #[ptr b] w1 fun e w' => ImQ w1 w' s.L e) := fun w1 k => image_cap (h.gr k)
  have HK : Hid (∀ w2 ad cap, Gr w w2 → RowAt flf w2 ad s.L → s.L.length ≤ cap → Calls Tryz.prog 30 #[.slice ad s.L.length cap] w2 fun e w' => LkR (Sg.look s.L) w2 e w') := fun w2 ad cap k hr hc => look_any s.L ad cap w2 (hT.gr k) (files_in h hr hc)
  have hbl := h.lt
  have hml := h.fl.lt
  have HM : Hid (∀ w2 g ad cap, Gr w w2 → Fa w2 g b 1 → IntsAt w2 ad (Sg.look s.L).drop → (∀ p, ad = some p → w.heap.size ≤ p.block) → Calls Tryz.prog 32 #[ptr g, .string d, .slice ad (Sg.look s.L).drop.length cap] w2 fun e w' => e = .returned (.int .i64 (alnE s 1 d (Sg.look s.L).drop)) ∧ FaR w2 w' b m (alnS s 1 d (Sg.look s.L).drop)) := by
    intro w2 g ad cap k kf ki kp
    exact alone_any (cap := cap) (h.gr k) kf hTu (hu.trans k) hub hum d (by omega) (by omega) (by omega) ki (fun p e => by have := kp p e; exact ⟨by omega, by omega⟩) (by omega) (fun x hx => by have := hdr x hx; exact ⟨by omega, by omega⟩)
  have HC : Hid (∀ w', Calls Tryz.prog 31 #[.string d] w' fun e w2 => e = .returned (.string d) ∧ Gr w' w2) := fun w' => clone_any d w' hds
  have HD : Hid (∀ w2, Gr w w2 → DAt w2 b m A s) := fun w2 k => h.gr k
  clear h hT hTu hu hub hum hdr hdl hds
  generalize alnE s 1 d (Sg.look s.L).drop = eM at *
  generalize alnS s 1 d (Sg.look s.L).drop = sM at *
  generalize Sg.look s.L = X at *
  obtain ⟨xn, xg, xb, xd, xe⟩ := X
  simp only at *
  subst he hn
  go_enter Tryz.func8, Tryz.ntmps8
  go_wp2_with fail
  refine HP.out.mono ?_
  rintro e w1 ⟨rfl, hg1⟩
  have HG1 := Lib.hid hg1
  clear hg1
  go_wp2_with fail
  refine (HI.out _ HG1.out).mono ?_
  rintro e w2 ⟨ia, ic, rfl, hrow, _, hg2, hic⟩
  have HG2 := Lib.hid (HG1.out.trans hg2)
  have HRow := Lib.hid hrow
  clear hg2 hrow
  go_wp2_with fail
  refine (HK.out _ _ _ HG2.out HRow.out hic).mono ?_
  rintro e w3 ⟨ab, cb, ad, cd, rfl, hI⟩
  have hs2 := HG2.out.size
  have HG3 := Lib.hid (HG2.out.trans hI.gr)
  have HBo := Lib.hid hI.bo
  have HDr := Lib.hid hI.dr
  have HFb : Hid (∀ p, ab = some p → w.heap.size ≤ p.block) := fun p e => Nat.le_trans hs2 (hI.fb p e)
  have HFd : Hid (∀ p, ad = some p → w.heap.size ≤ p.block) := fun p e => Nat.le_trans hs2 (hI.fd p e)
  clear hI hic hs2 HI HK HP HG1 HG2 HRow
  simp only at *
  go_upto_region 7 with fail
  go_region
  have HLg := Lib.hid ((lg_new (w3.alloc (.cells #[.int .i64 (-1), .int .i64 (xg : Int), .slice ab xb.length cb, .slice ad xd.length cd] 71)) b ⟨-1, xg, false⟩).gr (Gr.refl _).drew)
  have HG4 := Lib.hid (((HG3.out.alloc (o := .cells #[.int .i64 (-1), .int .i64 (xg : Int), .slice ab xb.length cb, .slice ad xd.length cd] 71)).alloc (o := .cells #[ptr b, .int .i64 (-1), .bool false] 77)).drew)
  have HG5 := Lib.hid ((((Gr.refl w3).alloc (o := .cells #[.int .i64 (-1), .int .i64 (xg : Int), .slice ab xb.length cb, .slice ad xd.length cd] 71)).alloc (o := .cells #[ptr b, .int .i64 (-1), .bool false] 77)).drew)
  have HF0 := Lib.hid ((Bx4.new w3 (.int .i64 (-1)) (.int .i64 (xg : Int)) (.slice ab xb.length cb) (.slice ad xd.length cd) 71 w3.heap.size rfl).gr ((Gr.refl _).alloc (o := .cells #[ptr b, .int .i64 (-1), .bool false] 77)).drew)
  have hs1 : (w3.alloc (.cells #[.int .i64 (-1), .int .i64 (xg : Int), .slice ab xb.length cb, .slice ad xd.length cd] 71)).heap.size = w3.heap.size + 1 := by simp
  have hs3 := HG3.out.size
  rw [hs1] at HLg
  have HBl : Hid (xb ≠ [] → ∀ p, ab = some p → p.block < w3.heap.size) := by
    intro hx p e
    obtain ⟨q, off, e2, hlt, _⟩ := HBo.out 0 (by cases xb with | nil => exact absurd rfl hx | cons _ _ => simp)
    rw [e] at e2
    cases e2
    exact hlt
  have HDl : Hid (xd ≠ [] → ∀ p, ad = some p → p.block < w3.heap.size) := by
    intro hx p e
    obtain ⟨q, off, e2, hlt, _⟩ := HDr.out 0 (by cases xd with | nil => exact absurd rfl hx | cons _ _ => simp)
    rw [e] at e2
    cases e2
    exact hlt
  have HBo4 := Lib.hid (HBo.out.gr HG5.out)
  have HDr4 := Lib.hid (HDr.out.gr HG5.out)
  clear HBo HDr HG5 HG3 hs1
  generalize hW : ((w3.alloc (.cells #[.int .i64 (-1), .int .i64 (xg : Int), .slice ab xb.length cb, .slice ad xd.length cd] 71)).alloc (.cells #[ptr b, .int .i64 (-1), .bool false] 77)).drew = W4 at *
  clear hW
  generalize w3.heap.size = f0 at *
  clear w3
  have c0 := HF0.out.c0
  have c3 := HF0.out.c3
  have l0 := HLg.out.f0
  have l1 := HLg.out.f1
  have l2 := HLg.out.f2
  have HK4 : Hid (LlR w W4 b m (f0 + 1) s ⟨-1, xg, false⟩) := ⟨⟨A, HD.out _ HG4.out⟩, HLg.out, T3.gr HG4.out _ _ _⟩
  have hlt4 := HLg.out.lt
  go_wp2_with fail
  refine (HC.out _).mono ?_
  rintro e w5 ⟨rfl, hg5⟩
  have HG5 := Lib.hid hg5
  have h45 := hg5.size
  have HK5 := Lib.hid ((lg_store (HK4.out.up hg5) 1 0).up ((Gr.refl _).alloc (o := .cells #[.string d] 9)))
  have l0 := hg5.keepF hlt4 l0
  have l1 := hg5.keepF hlt4 l1
  have l2 := hg5.keepF hlt4 l2
  have k0 := hg5.keep HLg.out.c0
  have k1 := hg5.keep HLg.out.c1
  have k2 := hg5.keep HLg.out.c2
  have hlt5 : f0 + 1 < w5.heap.size := Nat.lt_of_lt_of_le hlt4 h45
  have HG6 : Hid (Gr w (((w5.setCell ⟨f0 + 1, 0, none⟩ (ptr b)).setCell ⟨f0 + 1, 1, none⟩ (.int .i64 1)).alloc (.cells #[.string d] 9))) := (((HG4.out.trans hg5).set ⟨f0 + 1, 0, none⟩ (by show w.heap.size ≤ f0 + 1; omega) _).set ⟨f0 + 1, 1, none⟩ (by show w.heap.size ≤ f0 + 1; omega) _).alloc
  have HT6 : Hid (T3 W4 (((w5.setCell ⟨f0 + 1, 0, none⟩ (ptr b)).setCell ⟨f0 + 1, 1, none⟩ (.int .i64 1)).alloc (.cells #[.string d] 9)) b m (f0 + 1)) := (((T3.gr hg5 _ _ _).trans (T3.set _ _ _ _ _ _)).trans (T3.set _ _ _ _ _ _)).trans (T3.gr (Gr.refl _).alloc _ _ _)
  have hz5 : ((w5.setCell ⟨f0 + 1, 0, none⟩ (ptr b)).setCell ⟨f0 + 1, 1, none⟩ (.int .i64 1)).heap.size = w5.heap.size := by simp
  have HBn := Lib.hid (own_lit1 ((w5.setCell ⟨f0 + 1, 0, none⟩ (ptr b)).setCell ⟨f0 + 1, 1, none⟩ (.int .i64 1)) d)
  rw [hz5] at HBn
  clear hz5
  have HDr6 : Hid (IntsAt (((w5.setCell ⟨f0 + 1, 0, none⟩ (ptr b)).setCell ⟨f0 + 1, 1, none⟩ (.int .i64 1)).alloc (.cells #[.string d] 9)) ad xd) := by
    have h0 := HDr4.out.gr hg5
    by_cases hx : xd = []
    · subst hx; exact IntsAt.nil
    · have hne : ∀ p, ad = some p → f0 + 1 ≠ p.block := fun p e => by have := HDl.out hx p e; omega
      exact (ints_far (ints_far h0 _ _ hne) _ _ hne).gr (Gr.refl _).alloc
  have HC6 := Lib.hid (T3.cell HT6.out (by omega) (by omega) (by omega) HF0.out.c3)
  clear hg5 HK4 HDr4 HBo4 HLg HC hlt4 HF0 HT6
  go_upto_region 10 with fail
  generalize hW6 : ((w5.setCell ⟨f0 + 1, 0, none⟩ (ptr b)).setCell ⟨f0 + 1, 1, none⟩ (.int .i64 1)).alloc (.cells #[.string d] 9) = W6 at *
  clear hW6 l0 l1 l2 k0 k1 k2
  generalize hq5 : w5.heap.size = q5 at *
  have HSa : Hid (∀ w', T3 W6 w' b m (f0 + 1) → w'.cell? ⟨f0, 3, none⟩ = some (.slice ad xd.length cd)) := fun w' k => k.cell (by omega) (by omega) (by omega) HC6.out
  obtain ⟨⟨A6, hA6⟩, hL6, _⟩ := HK5.out
  have HA6 := Lib.hid hA6
  have HL6 := Lib.hid hL6
  clear hA6 hL6 HK5
  refine wp_region_held_drew (S := (fun w' => w'.cell? ⟨f0, 3, none⟩ = some (.slice ad xd.length cd))) (by kernel_rfl) (by first | with_reducible exact hHeld | with_reducible exact HSa.out _ HT7.out | with_reducible exact HSa.out _ (T3.gr (Gr.refl W6).drew _ _ _)) (fun hHeld => ?_)
  refine take_yes 0 45 (v := ?_) rfl rfl (by kernel_rfl) (by kernel_rfl) (by kernel_rfl) (fun _ _ _ h => h) (by rfl) ?_ hHeld ?_
  rotate_left
  · (intro w hSw; (try dsimp only at hSw); go_simp; try with_reducible rfl)
  simp only [Act.put, List.setIfInBounds_toArray, List.set_cons_zero, List.set_cons_succ]
  refine take_yes 1 46 (v := ?_) rfl rfl (by kernel_rfl) (by kernel_rfl) (by kernel_rfl) (fun _ _ _ h => h) (by rfl) ?_ hHeld ?_
  rotate_left
  · (intro w hSw; (try dsimp only at hSw); go_simp; try with_reducible rfl)
  simp only [Act.put, List.setIfInBounds_toArray, List.set_cons_zero, List.set_cons_succ]
  refine take_yes 2 47 (v := ?_) rfl rfl (by kernel_rfl) (by kernel_rfl) (by kernel_rfl) (fun _ _ _ h => h) (by rfl) ?_ hHeld ?_
  rotate_left
  · (intro w hSw; (try dsimp only at hSw); go_simp; try with_reducible rfl)
  simp only [Act.put, List.setIfInBounds_toArray, List.set_cons_zero, List.set_cons_succ]
  refine take_yes 3 48 (v := ?_) rfl rfl (by kernel_rfl) (by kernel_rfl) (by kernel_rfl) (fun _ _ _ h => h) (by rfl) ?_ hHeld ?_
  rotate_left
  · (intro w hSw; (try dsimp only at hSw); go_simp; try with_reducible rfl)
  simp only [Act.put, List.setIfInBounds_toArray, List.set_cons_zero, List.set_cons_succ]
  refine take_yes 4 49 (v := ?_) rfl rfl (by kernel_rfl) (by kernel_rfl) (by kernel_rfl) (fun _ _ _ h => h) (by rfl) ?_ hHeld ?_
  rotate_left
  · (intro w hSw; (try dsimp only at hSw); go_simp; try with_reducible rfl)
  simp only [Act.put, List.setIfInBounds_toArray, List.set_cons_zero, List.set_cons_succ]
  refine take_yes 5 50 (v := ?_) rfl rfl (by kernel_rfl) (by kernel_rfl) (by kernel_rfl) (fun _ _ _ h => h) (by rfl) ?_ hHeld ?_
  rotate_left
  · (intro w hSw; (try dsimp only at hSw); go_simp; try with_reducible rfl)
  simp only [Act.put, List.setIfInBounds_toArray, List.set_cons_zero, List.set_cons_succ]
  refine wpAnyH_ready (rs := [6]) (by kernel_rfl) (by simp) (AllReadyH.cons rfl (fun K hK => ?_) AllReadyH.nil)
  go_simp
  (go_at_call 32; refine (HM.out _ _ _ _ HG6.out.drew (Fa.gr (LgAt.fa (l := ⟨1, 0, false⟩) HL6.out) (Gr.refl _).drew) (HDr6.out.gr (Gr.refl _).drew) HFd.out).mono ?_; rintro e w7 ⟨rfl, hr7⟩; have HT7 := Lib.hid ((T3.gr (Gr.refl W6).drew b m (f0 + 1)).trans (hr7.2.t3 (f0 + 1))); have HR7 := Lib.hid hr7.1; have HL7 := Lib.hid (LgAt.td (HL6.out.gr (Gr.refl W6).drew) (HA6.out.gr (Gr.refl W6).drew) hr7.2); clear hr7)
  (try go_wp2_with fail)
  refine hK.out _ _ (by first | with_reducible exact hHeld | with_reducible exact HSa.out _ HT7.out | with_reducible exact HSa.out _ (T3.gr (Gr.refl W6).drew _ _ _)) (fun hHeldN => ?_)
  clear hHeld hK K
  have hHeld := hHeldN
  clear hHeldN
  refine take_yes 7 9 (v := ?_) rfl rfl (by kernel_rfl) (by kernel_rfl) (by kernel_rfl) (fun _ _ _ h => h) (by rfl) ?_ hHeld ?_
  rotate_left
  · (intro w hSw; (try dsimp only at hSw); go_simp; try with_reducible rfl)
  simp only [Act.put, List.setIfInBounds_toArray, List.set_cons_zero, List.set_cons_succ]
  refine wpAnyH_done (by kernel_rfl) ?_ _
  clear hHeld
  have HQ : Hid (FaR w w7 b m sM) := ⟨HR7.out, T3.skip HG6.out HT7.out (by omega)⟩
  have HBo7 := Lib.hid (T3.strs HBn.out HT7.out (fun p e => by cases e; exact ⟨by show q5 ≠ b; omega, by show q5 ≠ m; omega, by show q5 ≠ f0 + 1; omega⟩))
  have HMk : Hid ([d.data.toList].map mkT = [d]) := by show _ = _; simp [mkT]
  clear HM HSa HR7 HT7 HL6 HA6 HBn HDr6
  by_cases e1 : eM = 0
  · subst e1
    go_wp2
    go_ret3
    exact ⟨HQ.out, _, _, _, rfl, by omega, HL7.out, (by rw [HMk.out]; exact HBo7.out), (fun p e => by cases e; show w.heap.size ≤ q5; omega), fun _ p e => by cases e; show q5 ≠ f0 + 1; omega⟩
  · have e1b : (eM == 0) = false := by simpa using e1
    go_wp2
    go_ret3
    exact ⟨HQ.out, rfl⟩
/- Open, of a disk that a call made -/
theorem wopen_any (h : DAt w b m A s) (hTu : Tab u) (hu : Gr u w) (hub : u.heap.size ≤ b) (hum : u.heap.size ≤ m) (d : ByteArray) (hds : d.size ≤ 140737488355328) : Calls Tryz.prog 8 #[ptr b, .string d] w fun e w' => OpI w w' b m (Wl.opn s d) e := by
  cases hd : s.dead with
  | true => exact open_dead h d hd
  | false =>
    rcases look_or h.ok with he | ⟨he, hdr, hdl, hn | ⟨hn, hn1, _⟩⟩
    · exact open_err h (hTu.gr hu) d hd he
    · exact open_none h hTu hu hub hum d hds hd he hn hdr hdl
    · exact open_some h (hTu.gr hu) d hd he hn hn1 hdr hdl
end Go.Proofs.YtojmhhmpmpbpfaaGreatDoor
