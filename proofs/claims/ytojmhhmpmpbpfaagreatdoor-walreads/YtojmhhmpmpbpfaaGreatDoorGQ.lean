/- Parts of these proofs, laid together. -/
import Derived.Test.YtojmhhmpmpbpfaaGreatDoorGP
import Derived.Test.YtojmhhmpmpbpfaaGreatDoorGM
namespace Go.Proofs.YtojmhhmpmpbpfaaGreatDoor
open Go.RowKit Go.Maps
open Dk (Fl Fo St Ok Up zf emp used cutF fallA kf)
variable {X : Nat → Prop} {w w' : World} {r : Nat} {fa : Option Addr} {fc : Nat} {ka : Option Addr} {kc : Nat} {s : St}

theorem cnt_yes (h : lasB s = true) : Dk.cntE s = 150 ∧ Dk.cntS s = Dk.fall (lasS s) s.keep := by
  simp only [lasB, Bool.and_eq_true, Bool.not_eq_true', decide_eq_false_iff_not, decide_eq_true_eq] at h
  obtain ⟨h1, h2⟩ := h
  unfold Dk.cntE Dk.cntS lasS
  rw [if_neg h1, if_neg h1, if_neg h1, if_neg (by omega), if_neg (by omega)]
  exact ⟨rfl, rfl⟩
theorem cnt_no (hk : Ok s) (h : lasB s = false) : Dk.cntE s = 0 ∧ Dk.cntS s = lasS s := by
  have hl := hk.l0
  unfold Dk.cntE Dk.cntS lasS
  by_cases h1 : s.left = 0
  · rw [if_pos h1, if_pos h1, if_pos h1]
    exact ⟨rfl, rfl⟩
  · have h2 : ¬ s.left - 1 = 0 := fun h2 => by simp [lasB, h1, h2] at h
    rw [if_neg h1, if_neg h1, if_neg h1, if_pos (by omega), if_pos (by omega)]
    exact ⟨rfl, rfl⟩
theorem fl_new1 (w : World) (o : Obj) (f : Fl) : ∀ j u, ([f].flatMap flf)[j]? = some u → ((w.alloc o).alloc (.cells #[.int .i64 f.n, .string f.d, .int .i64 f.y] 24)).cell? ((⟨w.heap.size + 1, 0, none⟩ : Addr).add j) = some u := by
  have h := fl_new (w.alloc o) f
  have hs : (w.alloc o).heap.size = w.heap.size + 1 := by simp
  rwa [hs] at h
theorem fl_snoc1 (R : List Fl) (f : Fl) : (R ++ [f]).flatMap flf = R.flatMap flf ++ flf f := by simp
theorem nil_app (d : ByteArray) : (⟨#[]⟩ : ByteArray) ++ d = d := ByteArray.empty_append
/- the file is there -/
def repF (n : Int) (x f : Fl) : Fl := if f.n = n then x else f
theorem rep_ins {L : List Fl} (hu : Up L) {x : Fl} (hh : Dk.has L x.n = true) : L.map (repF x.n x) = Dk.ins x L := by
  obtain ⟨g1, g2⟩ := Dk.get_mem hh
  obtain ⟨A, B, e⟩ := List.append_of_mem g1
  generalize Dk.get L x.n = g at *
  subst e
  rw [Dk.ins_mid hu g2.symm, List.map_append, List.map_cons]
  obtain ⟨h1, h2, h3⟩ := List.pairwise_append.1 hu
  obtain ⟨h4, h5⟩ := List.pairwise_cons.1 h2
  have ea : A.map (repF x.n x) = A := by
    conv => rhs; rw [← List.map_id A]
    refine List.map_congr_left fun y hy => ?_
    have := h3 y hy g (by simp)
    unfold repF
    rw [if_neg (by omega)]
    rfl
  have eb : B.map (repF x.n x) = B := by
    conv => rhs; rw [← List.map_id B]
    refine List.map_congr_left fun y hy => ?_
    have := h4 y hy
    unfold repF
    rw [if_neg (by omega)]
    rfl
  rw [ea, eb]
  unfold repF
  rw [if_pos g2]
/- it is not -/
def dnB (n : Int) (A : List Fl) : Bool := A.any (fun f => decide (n < f.n))
def outN (x : Fl) (A : List Fl) : List Fl := if dnB x.n A then Dk.ins x A else A
theorem ins_snoc {x f : Fl} {A : List Fl} (h : dnB x.n A = true) : Dk.ins x (A ++ [f]) = Dk.ins x A ++ [f] := by
  induction A with
  | nil => cases h
  | cons g t ih =>
    rw [List.cons_append, Dk.ins, Dk.ins]
    split
    · rfl
    · split
      · rfl
      · rename_i c1 c2
        have : dnB x.n t = true := by
          simp only [dnB, List.any_cons, Bool.or_eq_true, decide_eq_true_eq] at h
          rcases h with h | h
          · omega
          · exact h
        rw [ih this]
        rfl
theorem dn_snoc (n : Int) (A : List Fl) (f : Fl) : dnB n (A ++ [f]) = (dnB n A || decide (n < f.n)) := by simp [dnB]
theorem dn_all {n : Int} {A : List Fl} (h : dnB n A = false) (hh : ∀ f ∈ A, f.n ≠ n) : ∀ f ∈ A, f.n < n := by
  intro f hf
  have h1 := List.any_eq_false.1 h f hf
  have := hh f hf
  simp at h1
  omega
theorem outN_done {x f : Fl} {A : List Fl} (h : dnB x.n A = true) : outN x (A ++ [f]) = outN x A ++ [f] := by
  unfold outN
  rw [dn_snoc, h]
  exact ins_snoc h
theorem outN_now {x f : Fl} {A : List Fl} (h : dnB x.n A = false) (hh : ∀ g ∈ A, g.n ≠ x.n) (hf : x.n < f.n) : outN x (A ++ [f]) = outN x A ++ [x] ++ [f] := by
  unfold outN
  rw [dn_snoc, h, decide_eq_true hf]
  show Dk.ins x (A ++ [f]) = A ++ [x] ++ [f]
  rw [Dk.ins_end (dn_all h hh) (by simpa using hf), List.append_assoc]
  rfl
theorem outN_not {x f : Fl} {A : List Fl} (h : dnB x.n A = false) (hf : ¬ x.n < f.n) : outN x (A ++ [f]) = outN x A ++ [f] := by
  unfold outN
  rw [dn_snoc, h, decide_eq_false hf]
  rfl
theorem outN_end {x : Fl} {A : List Fl} (h : dnB x.n A = false) (hh : ∀ g ∈ A, g.n ≠ x.n) : outN x A ++ [x] = Dk.ins x A := by
  unfold outN
  rw [h]
  have := Dk.ins_end (B := []) (dn_all h hh) (by simp)
  rw [List.append_nil] at this
  rw [this]
  rfl
theorem outN_full {x : Fl} {A : List Fl} (h : dnB x.n A = true) : outN x A = Dk.ins x A := by unfold outN; rw [h]; rfl
theorem outN_len (x : Fl) (A : List Fl) : (outN x A).length ≤ A.length + 1 := by
  unfold outN
  split
  · have : ∀ B : List Fl, (Dk.ins x B).length ≤ B.length + 1 := by
      intro B
      induction B with
      | nil => simp [Dk.ins]
      | cons g t ih =>
        unfold Dk.ins
        split
        · simp
        · split
          · simp
          · simp; omega
    exact this A
  · omega
set_option maxHeartbeats 4000000 in
set_option maxRecDepth 100000 in
theorem rappend_dead (h : RAt X w r fa fc ka kc s) (n : Int) (d : ByteArray) (hd : s.dead = true) :
    Calls Tryz.prog 65 #[ptr r, .int .i64 n, .string d] w fun e w' => e = .returned (.int .i64 (Dk.appE s n d)) ∧ Rf X w' r (Dk.appS s n d) ∧ Tr w w' r := by
  rw [(app_dead hd).1, (app_dead hd).2]
  have c1 := h.gn
  rw [hd] at c1
  have HR : Hid (Rf X w r s) := ⟨_, _, _, _, h⟩
  clear h
  go_enter Tryz.func65, Tryz.ntmps65
  go_wp2
  go_ret
  exact ⟨rfl, HR.out, Tr.refl _ _⟩
set_option maxHeartbeats 4000000 in
set_option maxRecDepth 100000 in
theorem rappend_arg (h : RAt X w r fa fc ka kc s) (n : Int) (d : ByteArray) (hd : s.dead = false) (h1 : n < 0 ∨ 1000000 < n) :
    Calls Tryz.prog 65 #[ptr r, .int .i64 n, .string d] w fun e w' => e = .returned (.int .i64 (Dk.appE s n d)) ∧ Rf X w' r (Dk.appS s n d) ∧ Tr w w' r := by
  rw [(app_arg hd h1).1, (app_arg hd h1).2]
  have c1 := h.gn
  rw [hd] at c1
  have HR : Hid (Rf X w r s) := ⟨_, _, _, _, h⟩
  clear h
  by_cases h2 : n < 0
  · go_enter Tryz.func65, Tryz.ntmps65
    go_wp2
    go_ret
    exact ⟨rfl, HR.out, Tr.refl _ _⟩
  · have h3 : 1000000 < n := by omega
    go_enter Tryz.func65, Tryz.ntmps65
    go_wp2
    go_ret
    exact ⟨rfl, HR.out, Tr.refl _ _⟩
set_option maxHeartbeats 16000000 in
set_option maxRecDepth 100000 in
theorem rappend_v1 (h : RAt X w r fa fc ka kc s) (n : Int) (d : ByteArray) (hd : s.dead = false) (h1 : ¬ (n < 0 ∨ 1000000 < n)) (hh : Dk.has s.L n = false) (h8 : 8 ≤ s.L.length) :
    Calls Tryz.prog 65 #[ptr r, .int .i64 n, .string d] w fun e w' => e = .returned (.int .i64 (Dk.appE s n d)) ∧ Rf X w' r (Dk.appS s n d) ∧ Tr w w' r := by
  rw [(app_full hd h1 (Or.inl ⟨hh, h8⟩)).1, (app_full hd h1 (Or.inl ⟨hh, h8⟩)).2]
  have c0 := h.rm
  have c1 := h.gn
  have c4 := h.fl
  rw [hd] at c1
  have HA := Lib.hid (rat_any h n)
  unfold ixE at HA
  rw [hh] at HA
  have HU : Hid (∀ m, Calls Tryz.prog 88 #[ptr r] (w.drewN m) fun e w' => e = .returned (.int .i64 (used s.L : Int)) ∧ w' = w.drewN m) := fun m => rused_any (h.gr ((Gr.refl w).dn m))
  have HR := Lib.hid h
  have hl8 := h.ok.len
  have hr0 := h.ok.r0
  have hr1 := h.ok.r1
  have hfit := h.ok.fits
  have hd1 : decide (n < 0) = false := decide_eq_false (by omega)
  have hd2 : decide (1000000 < n) = false := decide_eq_false (by omega)
  have h8b : ((s.L.length : Int) == 8) = true := by simp; omega
  clear h
  go_enter Tryz.func65, Tryz.ntmps65
  go_upto_region 6 with (go_at_call 66; refine HA.out.mono ?_; rintro e w' ⟨rfl, hw⟩; obtain rfl := hw.symm; clear hw)
  go_quiet ((go_at_call 88; exact Calls.quiet_of_same (HU.out _)))
  go_wp2
  go_ret
  exact ⟨rfl, ⟨_, _, _, _, HR.out.gr ((Gr.refl w).dn _)⟩, Tr.gr ((Gr.refl w).dn _)⟩
set_option maxHeartbeats 16000000 in
set_option maxRecDepth 100000 in
theorem rappend_v2 (h : RAt X w r fa fc ka kc s) (n : Int) (d : ByteArray) (hs : d.size ≤ 1000000) (hd : s.dead = false) (h1 : ¬ (n < 0 ∨ 1000000 < n)) (hh : Dk.has s.L n = false) (h8 : ¬ 8 ≤ s.L.length) (hf : s.room < (used s.L : Int) + d.size) :
    Calls Tryz.prog 65 #[ptr r, .int .i64 n, .string d] w fun e w' => e = .returned (.int .i64 (Dk.appE s n d)) ∧ Rf X w' r (Dk.appS s n d) ∧ Tr w w' r := by
  rw [(app_full hd h1 (Or.inr hf)).1, (app_full hd h1 (Or.inr hf)).2]
  have c0 := h.rm
  have c1 := h.gn
  have c4 := h.fl
  rw [hd] at c1
  have HA := Lib.hid (rat_any h n)
  unfold ixE at HA
  rw [hh] at HA
  have HU : Hid (∀ m, Calls Tryz.prog 88 #[ptr r] (w.drewN m) fun e w' => e = .returned (.int .i64 (used s.L : Int)) ∧ w' = w.drewN m) := fun m => rused_any (h.gr ((Gr.refl w).dn m))
  have HR := Lib.hid h
  have hl8 := h.ok.len
  have hr0 := h.ok.r0
  have hr1 := h.ok.r1
  have hfit := h.ok.fits
  have hd1 : decide (n < 0) = false := decide_eq_false (by omega)
  have hd2 : decide (1000000 < n) = false := decide_eq_false (by omega)
  have h8b : ((s.L.length : Int) == 8) = false := by simp; omega
  have hfb : decide (s.room < (used s.L : Int) + (d.size : Int)) = true := decide_eq_true (by omega)
  clear h
  go_enter Tryz.func65, Tryz.ntmps65
  go_upto_region 6 with (go_at_call 66; refine HA.out.mono ?_; rintro e w' ⟨rfl, hw⟩; obtain rfl := hw.symm; clear hw)
  go_quiet ((go_at_call 88; exact Calls.quiet_of_same (HU.out _)))
  go_wp2
  go_ret
  exact ⟨rfl, ⟨_, _, _, _, HR.out.gr ((Gr.refl w).dn _)⟩, Tr.gr ((Gr.refl w).dn _)⟩
set_option maxHeartbeats 16000000 in
set_option maxRecDepth 100000 in
theorem rappend_v3 (h : RAt X w r fa fc ka kc s) (n : Int) (d : ByteArray) (hs : d.size ≤ 1000000) (hd : s.dead = false) (h1 : ¬ (n < 0 ∨ 1000000 < n)) (hh : Dk.has s.L n = true) (hf : s.room < (used s.L : Int) + d.size) :
    Calls Tryz.prog 65 #[ptr r, .int .i64 n, .string d] w fun e w' => e = .returned (.int .i64 (Dk.appE s n d)) ∧ Rf X w' r (Dk.appS s n d) ∧ Tr w w' r := by
  rw [(app_full hd h1 (Or.inr hf)).1, (app_full hd h1 (Or.inr hf)).2]
  have c0 := h.rm
  have c1 := h.gn
  have c4 := h.fl
  rw [hd] at c1
  have HA := Lib.hid (rat_any h n)
  unfold ixE at HA
  rw [hh] at HA
  have HU : Hid (∀ m, Calls Tryz.prog 88 #[ptr r] (w.drewN m) fun e w' => e = .returned (.int .i64 (used s.L : Int)) ∧ w' = w.drewN m) := fun m => rused_any (h.gr ((Gr.refl w).dn m))
  have HR := Lib.hid h
  have hl8 := h.ok.len
  have hr0 := h.ok.r0
  have hr1 := h.ok.r1
  have hfit := h.ok.fits
  have hd1 : decide (n < 0) = false := decide_eq_false (by omega)
  have hd2 : decide (1000000 < n) = false := decide_eq_false (by omega)
  have hfb : decide (s.room < (used s.L : Int) + (d.size : Int)) = true := decide_eq_true (by omega)
  have hix0 : decide ((ix s.L n : Int) < 0) = false := decide_eq_false (by omega)
  obtain ⟨hixl, _, _⟩ := ix_at hh
  clear h
  go_enter Tryz.func65, Tryz.ntmps65
  go_upto_region 6 with (go_at_call 66; refine HA.out.mono ?_; rintro e w' ⟨rfl, hw⟩; obtain rfl := hw.symm; clear hw)
  go_quiet ((go_at_call 88; exact Calls.quiet_of_same (HU.out _)))
  go_wp2
  go_ret
  exact ⟨rfl, ⟨_, _, _, _, HR.out.gr ((Gr.refl w).dn _)⟩, Tr.gr ((Gr.refl w).dn _)⟩
set_option maxHeartbeats 16000000 in
set_option maxRecDepth 100000 in
theorem rappend_v4 (h : RAt X w r fa fc ka kc s) (n : Int) (d : ByteArray) (hs : d.size ≤ 1000000) (hd : s.dead = false) (h1 : ¬ (n < 0 ∨ 1000000 < n)) (hh : Dk.has s.L n = false) (h8 : ¬ 8 ≤ s.L.length) (hf : ¬ s.room < (used s.L : Int) + d.size) (he : d.size = 0) :
    Calls Tryz.prog 65 #[ptr r, .int .i64 n, .string d] w fun e w' => e = .returned (.int .i64 (Dk.appE s n d)) ∧ Rf X w' r (Dk.appS s n d) ∧ Tr w w' r := by
  have h2 : ¬ ((Dk.has s.L n = false ∧ 8 ≤ s.L.length) ∨ s.room < (used s.L : Int) + d.size) := fun e => e.elim (fun e => h8 e.2) hf
  rw [(app_none hd h1 h2 he).1, (app_none hd h1 h2 he).2]
  have c0 := h.rm
  have c1 := h.gn
  have c4 := h.fl
  rw [hd] at c1
  have HA := Lib.hid (rat_any h n)
  unfold ixE at HA
  rw [hh] at HA
  have HU : Hid (∀ m, Calls Tryz.prog 88 #[ptr r] (w.drewN m) fun e w' => e = .returned (.int .i64 (used s.L : Int)) ∧ w' = w.drewN m) := fun m => rused_any (h.gr ((Gr.refl w).dn m))
  have HR := Lib.hid h
  have hl8 := h.ok.len
  have hr0 := h.ok.r0
  have hr1 := h.ok.r1
  have hfit := h.ok.fits
  have hd1 : decide (n < 0) = false := decide_eq_false (by omega)
  have hd2 : decide (1000000 < n) = false := decide_eq_false (by omega)
  have h8b : ((s.L.length : Int) == 8) = false := by simp; omega
  have hfb : decide (s.room < (used s.L : Int) + (d.size : Int)) = false := decide_eq_false (by omega)
  have hemp := emp_any d
  rw [decide_eq_true he] at hemp
  clear h
  clear he
  go_enter Tryz.func65, Tryz.ntmps65
  go_upto_region 6 with (go_at_call 66; refine HA.out.mono ?_; rintro e w' ⟨rfl, hw⟩; obtain rfl := hw.symm; clear hw)
  go_quiet ((go_at_call 88; exact Calls.quiet_of_same (HU.out _)))
  go_wp2
  go_ret
  exact ⟨rfl, ⟨_, _, _, _, HR.out.gr ((Gr.refl w).dn _)⟩, Tr.gr ((Gr.refl w).dn _)⟩
set_option maxHeartbeats 16000000 in
set_option maxRecDepth 100000 in
theorem rappend_v5 (h : RAt X w r fa fc ka kc s) (n : Int) (d : ByteArray) (hs : d.size ≤ 1000000) (hd : s.dead = false) (h1 : ¬ (n < 0 ∨ 1000000 < n)) (hh : Dk.has s.L n = true) (hf : ¬ s.room < (used s.L : Int) + d.size) (he : d.size = 0) :
    Calls Tryz.prog 65 #[ptr r, .int .i64 n, .string d] w fun e w' => e = .returned (.int .i64 (Dk.appE s n d)) ∧ Rf X w' r (Dk.appS s n d) ∧ Tr w w' r := by
  have h2 : ¬ ((Dk.has s.L n = false ∧ 8 ≤ s.L.length) ∨ s.room < (used s.L : Int) + d.size) := fun e => e.elim (fun e => by rw [hh] at e; cases e.1) hf
  rw [(app_none hd h1 h2 he).1, (app_none hd h1 h2 he).2]
  have c0 := h.rm
  have c1 := h.gn
  have c4 := h.fl
  rw [hd] at c1
  have HA := Lib.hid (rat_any h n)
  unfold ixE at HA
  rw [hh] at HA
  have HU : Hid (∀ m, Calls Tryz.prog 88 #[ptr r] (w.drewN m) fun e w' => e = .returned (.int .i64 (used s.L : Int)) ∧ w' = w.drewN m) := fun m => rused_any (h.gr ((Gr.refl w).dn m))
  have HR := Lib.hid h
  have hl8 := h.ok.len
  have hr0 := h.ok.r0
  have hr1 := h.ok.r1
  have hfit := h.ok.fits
  have hd1 : decide (n < 0) = false := decide_eq_false (by omega)
  have hd2 : decide (1000000 < n) = false := decide_eq_false (by omega)
  have hfb : decide (s.room < (used s.L : Int) + (d.size : Int)) = false := decide_eq_false (by omega)
  have hemp := emp_any d
  rw [decide_eq_true he] at hemp
  have hix0 : decide ((ix s.L n : Int) < 0) = false := decide_eq_false (by omega)
  obtain ⟨hixl, _, _⟩ := ix_at hh
  clear h
  clear he
  go_enter Tryz.func65, Tryz.ntmps65
  go_upto_region 6 with (go_at_call 66; refine HA.out.mono ?_; rintro e w' ⟨rfl, hw⟩; obtain rfl := hw.symm; clear hw)
  go_quiet ((go_at_call 88; exact Calls.quiet_of_same (HU.out _)))
  go_wp2
  go_ret
  exact ⟨rfl, ⟨_, _, _, _, HR.out.gr ((Gr.refl w).dn _)⟩, Tr.gr ((Gr.refl w).dn _)⟩
set_option maxHeartbeats 16000000 in
set_option maxRecDepth 100000 in
theorem rappend_v6 (h : RAt X w r fa fc ka kc s) (n : Int) (d : ByteArray) (hs : d.size ≤ 1000000) (hd : s.dead = false) (h1 : ¬ (n < 0 ∨ 1000000 < n)) (hh : Dk.has s.L n = false) (h8 : ¬ 8 ≤ s.L.length) (hf : ¬ s.room < (used s.L : Int) + d.size) (he : ¬ d.size = 0) :
    Calls Tryz.prog 65 #[ptr r, .int .i64 n, .string d] w fun e w' => e = .returned (.int .i64 (Dk.appE s n d)) ∧ Rf X w' r (Dk.appS s n d) ∧ Tr w w' r := by
  have h2 : ¬ ((Dk.has s.L n = false ∧ 8 ≤ s.L.length) ∨ s.room < (used s.L : Int) + d.size) := fun e => e.elim (fun e => h8 e.2) hf
  rw [(app_go hd h1 h2 he).1, (app_go hd h1 h2 he).2]
  obtain ⟨hfo, hok⟩ := h.ok.ext h1 h2 he
  have c0 := h.rm
  have c1 := h.gn
  have c4 := h.fl
  rw [hd] at c1
  have HA := Lib.hid (rat_any h n)
  unfold ixE at HA
  rw [hh] at HA
  have HU : Hid (∀ m, Calls Tryz.prog 88 #[ptr r] (w.drewN m) fun e w' => e = .returned (.int .i64 (used s.L : Int)) ∧ w' = w.drewN m) := fun m => rused_any (h.gr ((Gr.refl w).dn m))
  have HR := Lib.hid h
  have hl8 := h.ok.len
  have hr0 := h.ok.r0
  have hr1 := h.ok.r1
  have hfit := h.ok.fits
  have hd1 : decide (n < 0) = false := decide_eq_false (by omega)
  have hd2 : decide (1000000 < n) = false := decide_eq_false (by omega)
  have h8b : ((s.L.length : Int) == 8) = false := by simp; omega
  have hfb : decide (s.room < (used s.L : Int) + (d.size : Int)) = false := decide_eq_false (by omega)
  have hemp := emp_any d
  rw [decide_eq_false he] at hemp
  clear h
  obtain ⟨i0, hi0, hz0, hz1, hz2⟩ := info_parts infoF
  clear he
  go_enter Tryz.func65, Tryz.ntmps65
  go_upto_region 6 with (go_at_call 66; refine HA.out.mono ?_; rintro e w' ⟨rfl, hw⟩; obtain rfl := hw.symm; clear hw)
  go_quiet ((go_at_call 88; exact Calls.quiet_of_same (HU.out _)))
  have HW : Hid (Gr w (w.drewN nq)) := (Gr.refl w).dn nq
  generalize w.drewN nq = w0 at *
  have HR0 := Lib.hid (HR.out.gr HW.out)
  have c4 := HR0.out.fl
  have hext : Dk.ext s.L n d = ⟨n, d, 0⟩ := by unfold Dk.ext; rw [Dk.get_not hh, nil_app]
  have HNo : Hid (∀ f ∈ s.L, f.n ≠ n) := fun f hf => Dk.has_not hh hf
  go_wp2
  go_loopw [10, 8, 9] (fun i v dn wr => ∃ k : Nat, k ≤ s.L.length ∧ i = .int .i64 (k : Int) ∧ dn = .bool (dnB n (s.L.take k)) ∧ wr.ownsRow w0.heap.size 24 3 v (outN (Dk.ext s.L n d) (s.L.take k)).length ((outN (Dk.ext s.L n d) (s.L.take k)).flatMap flf) ∧ Gr w0 wr) (fun i _ _ _ => s.L.length - (intOf i).toNat)
  case atStart => exact ⟨0, Nat.zero_le _, rfl, rfl, own_none _ _, Gr.refl w0⟩
  case round =>
    rename_i v
    obtain ⟨k, hk, rfl, rfl, hown, hg⟩ := hrel
    have HG := Lib.hid hg
    have HOw := Lib.hid hown
    have c4 := hg.keep c4
    have hbs := hg.size
    clear hown
    by_cases hlt : k < s.L.length
    · obtain ⟨x, off, hade, hxb, e0, e1, e2⟩ := fl_at HR0.out.row k hlt
      have e0 := hg.keep e0
      have e1 := hg.keep e1
      have e2 := hg.keep e2
      have hne := HNo.out s.L[k] (List.getElem_mem hlt)
      have hnb : (s.L[k].n == n) = false := by simpa using hne
      have hRl : (outN (Dk.ext s.L n d) (s.L.take k)).length ≤ 9 := by have := outN_len (Dk.ext s.L n d) (s.L.take k); rw [List.length_take] at this; omega
      have HDn : Hid (dnB n (s.L.take (k + 1)) = (dnB n (s.L.take k) || decide (n < s.L[k].n))) := by show _ = _; rw [List.take_succ_eq_append_getElem hlt, dn_snoc]
      obtain ⟨va, vc, rfl⟩ := own_slice HOw.out
      obtain ⟨R', eR'⟩ : ∃ R', R' = outN (Dk.ext s.L n d) (s.L.take (k + 1)) := ⟨_, rfl⟩
      have HRe := Lib.hid eR'
      have hte := List.take_succ_eq_append_getElem hlt
      subst hade
      cases hdn : dnB n (s.L.take k) with
      | true =>
        rw [hdn, Bool.true_or] at HDn
        have HT : Hid (R' = outN (Dk.ext s.L n d) (s.L.take k) ++ [s.L[k]]) := by show R' = _; rw [eR', hte]; exact outN_done hdn
        clear hg eR' hte hok hfo hne hdn
        generalize outN (Dk.ext s.L n d) (s.L.take k) = R at *
        generalize s.L[k] = f at *
        obtain ⟨fn, fd, fy⟩ := f
        simp only at *
        have Ra := Lib.hid (row_gr HOw.out (((Gr.refl wr).alloc (o := .cells #[.int .i64 fn, .string fd, .int .i64 fy] 24)).alloc (o := .cells #[.int .i64 fn, .string fd, .int .i64 fy] 24)))
        have Na := Lib.hid (fl_new1 wr (.cells #[.int .i64 fn, .string fd, .int .i64 fy] 24) ⟨fn, fd, fy⟩)
        go_wp2_with (first
          | (at_builtin; refine wpList_append_own _ rfl _ _ 22 rfl w0.heap.size 24 i0 (.agg #[.int .i64 0, .string ⟨#[]⟩, .int .i64 0]) 3 32 Tryz.underlying22 hi0 hz0 hz1 hz2 rfl (by decide) _ _ _ rfl Ra.out ⟨wr.heap.size + 1, 0, none⟩ 1 1 ([(⟨fn, fd, fy⟩ : Fl)].flatMap flf) rfl rfl Na.out (flf_one _) (by unfold maxLen; omega) (by omega) (by simp; omega) ?_)
          | fail)
        intro va wa hoa hgra _
        have HGa := Lib.hid (own_gr Ra.out HG.out.alloc.alloc hgra (Nat.le_refl _))
        have HOa := Lib.hid hoa
        clear hoa hgra
        go_wp2
        go_roundw
        case rel => exact ⟨k + 1, by omega, by simp, by rw [HDn.out], by (rw [← HRe.out, HT.out, fl_snoc1, List.length_append]; exact HOa.out), HGa.out⟩
        case measure => simp [intOf]; omega
      | false =>
        rw [hdn, Bool.false_or] at HDn
        by_cases hnf : n < s.L[k].n
        · rw [decide_eq_true hnf] at HDn
          have hnfb : decide (n < s.L[k].n) = true := decide_eq_true hnf
          have HT : Hid (R' = outN (Dk.ext s.L n d) (s.L.take k) ++ [⟨n, d, 0⟩] ++ [s.L[k]]) := by show R' = _; rw [eR', hte, ← hext]; exact outN_now hdn (fun g hg => HNo.out g (List.mem_of_mem_take hg)) hnf
          clear hg eR' hte hok hfo hne hdn
          generalize outN (Dk.ext s.L n d) (s.L.take k) = R at *
          generalize s.L[k] = f at *
          obtain ⟨fn, fd, fy⟩ := f
          simp only at *
          have BX := BoxAt.new wr (.int .i64 fn) (.string fd) (.int .i64 fy) 24 _ rfl
          have Ra := Lib.hid (row_gr HOw.out (((Gr.refl wr).alloc (o := .cells #[.int .i64 fn, .string fd, .int .i64 fy] 24)).alloc (o := .cells #[.int .i64 n, .string d, .int .i64 0] 24)))
          have Na := Lib.hid (fl_new1 wr (.cells #[.int .i64 fn, .string fd, .int .i64 fy] 24) ⟨n, d, 0⟩)
          have HB := Lib.hid (BX.gr ((Gr.refl _).alloc (o := .cells #[.int .i64 n, .string d, .int .i64 0] 24)))
          have HNe : Hid (∀ j, (Value.slice va R.length vc).ownBlock = some j → j ≠ wr.heap.size) := fun j hj => by have := (HOw.out.lt j hj).2; omega
          clear BX
          go_wp2_with (first
            | (at_builtin; refine wpList_append_own _ rfl _ _ 22 rfl w0.heap.size 24 i0 (.agg #[.int .i64 0, .string ⟨#[]⟩, .int .i64 0]) 3 32 Tryz.underlying22 hi0 hz0 hz1 hz2 rfl (by decide) _ _ _ rfl Ra.out ⟨wr.heap.size + 1, 0, none⟩ 1 1 ([(⟨n, d, 0⟩ : Fl)].flatMap flf) rfl rfl Na.out (flf_one _) (by unfold maxLen; omega) (by omega) (by simp; omega) ?_)
            | fail)
          intro va wa hoa hgra _
          have HGa := Lib.hid (own_gr Ra.out HG.out.alloc.alloc hgra (Nat.le_refl _))
          have b0 := hgra.cell HB.out.c0 (fun e => HNe.out _ e.symm rfl)
          have b1 := hgra.cell HB.out.c1 (fun e => HNe.out _ e.symm rfl)
          have b2 := hgra.cell HB.out.c2 (fun e => HNe.out _ e.symm rfl)
          have hsa := HGa.out.size
          obtain ⟨vaa, vca, rfl⟩ := own_slice hoa
          have Rb := Lib.hid (row_gr hoa ((Gr.refl wa).alloc (o := .cells #[.int .i64 fn, .string fd, .int .i64 fy] 24)))
          have Nb := Lib.hid (fl_new wa ⟨fn, fd, fy⟩)
          clear hoa hgra HB HNe
          go_wp2_with (first
            | (at_builtin; refine wpList_append_own _ rfl _ _ 22 rfl w0.heap.size 24 i0 (.agg #[.int .i64 0, .string ⟨#[]⟩, .int .i64 0]) 3 32 Tryz.underlying22 hi0 hz0 hz1 hz2 rfl (by decide) _ _ _ rfl Rb.out ⟨wa.heap.size, 0, none⟩ 1 1 ([(⟨fn, fd, fy⟩ : Fl)].flatMap flf) rfl rfl Nb.out (flf_one _) (by unfold maxLen; omega) (by omega) (by simp; omega) ?_)
            | fail)
          intro vb wb hob hgrb _
          have HGb := Lib.hid (own_gr Rb.out HGa.out.alloc hgrb (Nat.le_refl _))
          have HOb := Lib.hid hob
          clear hob hgrb
          go_wp2
          go_roundw
          case rel => exact ⟨k + 1, by omega, by simp, by rw [HDn.out], by (rw [← HRe.out, HT.out, fl_snoc1, fl_snoc1, List.length_append, List.length_append, List.append_assoc (R.flatMap flf)]; exact HOb.out), HGb.out⟩
          case measure => simp [intOf]; omega
        · rw [decide_eq_false hnf] at HDn
          have hnfb : decide (n < s.L[k].n) = false := decide_eq_false hnf
          have HT : Hid (R' = outN (Dk.ext s.L n d) (s.L.take k) ++ [s.L[k]]) := by show R' = _; rw [eR', hte]; exact outN_not hdn hnf
          clear hg eR' hte hok hfo hne hdn
          generalize outN (Dk.ext s.L n d) (s.L.take k) = R at *
          generalize s.L[k] = f at *
          obtain ⟨fn, fd, fy⟩ := f
          simp only at *
          have Ra := Lib.hid (row_gr HOw.out (((Gr.refl wr).alloc (o := .cells #[.int .i64 fn, .string fd, .int .i64 fy] 24)).alloc (o := .cells #[.int .i64 fn, .string fd, .int .i64 fy] 24)))
          have Na := Lib.hid (fl_new1 wr (.cells #[.int .i64 fn, .string fd, .int .i64 fy] 24) ⟨fn, fd, fy⟩)
          go_wp2_with (first
            | (at_builtin; refine wpList_append_own _ rfl _ _ 22 rfl w0.heap.size 24 i0 (.agg #[.int .i64 0, .string ⟨#[]⟩, .int .i64 0]) 3 32 Tryz.underlying22 hi0 hz0 hz1 hz2 rfl (by decide) _ _ _ rfl Ra.out ⟨wr.heap.size + 1, 0, none⟩ 1 1 ([(⟨fn, fd, fy⟩ : Fl)].flatMap flf) rfl rfl Na.out (flf_one _) (by unfold maxLen; omega) (by omega) (by simp; omega) ?_)
            | fail)
          intro va wa hoa hgra _
          have HGa := Lib.hid (own_gr Ra.out HG.out.alloc.alloc hgra (Nat.le_refl _))
          have HOa := Lib.hid hoa
          clear hoa hgra
          go_wp2
          go_roundw
          case rel => exact ⟨k + 1, by omega, by simp, by rw [HDn.out], by (rw [← HRe.out, HT.out, fl_snoc1, List.length_append]; exact HOa.out), HGa.out⟩
          case measure => simp [intOf]; omega
    · obtain rfl : k = s.L.length := by omega
      rw [List.take_length] at HOw
      cases hdn : dnB n (s.L.take s.L.length) with
      | true =>
        rw [List.take_length] at hdn
        have hri : outN (Dk.ext s.L n d) s.L = Dk.ins (Dk.ext s.L n d) s.L := outN_full hdn
        rw [hri] at HOw
        obtain ⟨va, vc, rfl, hc1, hc2, hrow, hb, _⟩ := own_row HOw.out
        have HGz := HG
        obtain ⟨wz, hwz⟩ : ∃ x, x = wr := ⟨_, rfl⟩
        subst hwz
        clear hg HG HOw hri hdn
        have HX := Lib.hid ((HR0.out.gr HGz.out).setFiles (L := Dk.ins (Dk.ext s.L n d) s.L) hrow (fun q e => ⟨by have := hb q e; have := HR0.out.lt; omega, fun hx => by have := hb q e; have := HR0.out.xl _ hx; omega⟩) hc1 hc2 hok)
        have HT1 : Hid (Tr w (wz.setCell ⟨r, 4, none⟩ (.slice va (Dk.ins (Dk.ext s.L n d) s.L).length vc)) r) := (Tr.gr (HW.out.trans HGz.out)).trans (Tr.set _ _ _ _)
        have HLs := Lib.hid (rlast_any HX.out)
        have c4z := HGz.out.keep HR0.out.fl
        have f4z := HGz.out.keepF HR0.out.lt (HR0.out.fz 4 (by omega))
        have HCy : Hid (lasB ({ s with L := Dk.ins (Dk.ext s.L n d) s.L } : St) = true → Dk.cntE s = 150 ∧ Dk.cntS ({ s with L := Dk.ins (Dk.ext s.L n d) s.L } : St) = Dk.fall (lasS ({ s with L := Dk.ins (Dk.ext s.L n d) s.L } : St)) ({ s with L := Dk.ins (Dk.ext s.L n d) s.L } : St).keep) := fun e => cnt_yes e
        have HCn : Hid (lasB ({ s with L := Dk.ins (Dk.ext s.L n d) s.L } : St) = false → Dk.cntE s = 0 ∧ Dk.cntS ({ s with L := Dk.ins (Dk.ext s.L n d) s.L } : St) = lasS ({ s with L := Dk.ins (Dk.ext s.L n d) s.L } : St)) := fun e => cnt_no hok e
        clear hrow hb HGz HX hok
        obtain ⟨sx, hsx⟩ : ∃ sx : St, sx = { s with L := Dk.ins (Dk.ext s.L n d) s.L } := ⟨_, rfl⟩
        rw [← hsx] at HLs HCy HCn
        have HSx := Lib.hid hsx
        clear hsx
        generalize (Dk.ins (Dk.ext s.L n d) s.L).length = ln at *
        cases hls : lasB sx with
        | true =>
          rw [hls] at HLs
          have HQ := Lib.hid (HCy.out hls)
          clear HCy HCn
          go_wp2_with fail
          refine HLs.out.mono ?_
          rintro e wl ⟨rfl, hx, ht⟩
          have ck := hx.kp
          have hkl : (lasS sx).keep = sx.keep := by unfold lasS; split <;> rfl
          have HFl := Lib.hid (rfall_any hx hx.krow)
          have HTl := Lib.hid (HT1.out.trans ht)
          rw [hkl] at HFl ck
          clear hx ht HLs
          go_wp2_with fail
          refine HFl.out.mono ?_
          rintro e wm ⟨rfl, hrf, htf⟩
          have HRf := Lib.hid hrf
          have HTf := Lib.hid (HTl.out.trans htf)
          clear hrf htf HFl
          go_wp2
          go_ret
          exact ⟨by rw [HQ.out.1]; rfl, by (rw [← HSx.out, HQ.out.2]; exact HRf.out), HTf.out⟩
        | false =>
          rw [hls] at HLs
          have HQ := Lib.hid (HCn.out hls)
          clear HCy HCn
          go_wp2_with fail
          refine HLs.out.mono ?_
          rintro e wl ⟨rfl, hx, ht⟩
          have HRf : Hid (Rf X wl r (lasS sx)) := ⟨_, _, _, _, hx⟩
          have HTf := Lib.hid (HT1.out.trans ht)
          clear hx ht HLs
          go_wp2
          go_ret
          exact ⟨by rw [HQ.out.1]; rfl, by (rw [← HSx.out, HQ.out.2]; exact HRf.out), HTf.out⟩
      | false =>
        rw [List.take_length] at hdn
        have hri : outN (Dk.ext s.L n d) s.L ++ [⟨n, d, 0⟩] = Dk.ins (Dk.ext s.L n d) s.L := by rw [← hext]; exact outN_end hdn HNo.out
        have hRl : (outN (Dk.ext s.L n d) s.L).length ≤ 9 := by have := outN_len (Dk.ext s.L n d) s.L; omega
        obtain ⟨va, vc, rfl⟩ := own_slice HOw.out
        have Ra := Lib.hid (row_gr HOw.out ((Gr.refl wr).alloc (o := .cells #[.int .i64 n, .string d, .int .i64 0] 24)))
        have Na := Lib.hid (fl_new wr ⟨n, d, 0⟩)
        have hok2 := Lib.hid hok
        have HRi := Lib.hid hri
        clear hg hdn hri hok hfo
        generalize outN (Dk.ext s.L n d) s.L = R at *
        go_wp2_with (first
          | (at_builtin; refine wpList_append_own _ rfl _ _ 22 rfl w0.heap.size 24 i0 (.agg #[.int .i64 0, .string ⟨#[]⟩, .int .i64 0]) 3 32 Tryz.underlying22 hi0 hz0 hz1 hz2 rfl (by decide) _ _ _ rfl Ra.out ⟨wr.heap.size, 0, none⟩ 1 1 ([(⟨n, d, 0⟩ : Fl)].flatMap flf) rfl rfl Na.out (flf_one _) (by unfold maxLen; omega) (by omega) (by simp; omega) ?_)
          | fail)
        intro va wa hoa hgra _
        have HGa := Lib.hid (own_gr Ra.out HG.out.alloc hgra (Nat.le_refl _))
        have hob : wa.ownsRow w0.heap.size 24 3 va (Dk.ins (Dk.ext s.L n d) s.L).length ((Dk.ins (Dk.ext s.L n d) s.L).flatMap flf) := by rw [← HRi.out, fl_snoc1, List.length_append]; exact hoa
        clear hoa hgra Ra Na HOw HRi
        obtain ⟨va, vc, rfl, hc1, hc2, hrow, hb, _⟩ := own_row hob
        have HGz := HGa
        obtain ⟨wz, hwz⟩ : ∃ x, x = wa := ⟨_, rfl⟩
        subst hwz
        have hok := hok2.out
        clear hob HGa HG
        have HX := Lib.hid ((HR0.out.gr HGz.out).setFiles (L := Dk.ins (Dk.ext s.L n d) s.L) hrow (fun q e => ⟨by have := hb q e; have := HR0.out.lt; omega, fun hx => by have := hb q e; have := HR0.out.xl _ hx; omega⟩) hc1 hc2 hok)
        have HT1 : Hid (Tr w (wz.setCell ⟨r, 4, none⟩ (.slice va (Dk.ins (Dk.ext s.L n d) s.L).length vc)) r) := (Tr.gr (HW.out.trans HGz.out)).trans (Tr.set _ _ _ _)
        have HLs := Lib.hid (rlast_any HX.out)
        have c4z := HGz.out.keep HR0.out.fl
        have f4z := HGz.out.keepF HR0.out.lt (HR0.out.fz 4 (by omega))
        have HCy : Hid (lasB ({ s with L := Dk.ins (Dk.ext s.L n d) s.L } : St) = true → Dk.cntE s = 150 ∧ Dk.cntS ({ s with L := Dk.ins (Dk.ext s.L n d) s.L } : St) = Dk.fall (lasS ({ s with L := Dk.ins (Dk.ext s.L n d) s.L } : St)) ({ s with L := Dk.ins (Dk.ext s.L n d) s.L } : St).keep) := fun e => cnt_yes e
        have HCn : Hid (lasB ({ s with L := Dk.ins (Dk.ext s.L n d) s.L } : St) = false → Dk.cntE s = 0 ∧ Dk.cntS ({ s with L := Dk.ins (Dk.ext s.L n d) s.L } : St) = lasS ({ s with L := Dk.ins (Dk.ext s.L n d) s.L } : St)) := fun e => cnt_no hok e
        clear hrow hb HGz HX hok
        obtain ⟨sx, hsx⟩ : ∃ sx : St, sx = { s with L := Dk.ins (Dk.ext s.L n d) s.L } := ⟨_, rfl⟩
        rw [← hsx] at HLs HCy HCn
        have HSx := Lib.hid hsx
        clear hsx
        generalize (Dk.ins (Dk.ext s.L n d) s.L).length = ln at *
        cases hls : lasB sx with
        | true =>
          rw [hls] at HLs
          have HQ := Lib.hid (HCy.out hls)
          clear HCy HCn
          go_wp2_with fail
          refine HLs.out.mono ?_
          rintro e wl ⟨rfl, hx, ht⟩
          have ck := hx.kp
          have hkl : (lasS sx).keep = sx.keep := by unfold lasS; split <;> rfl
          have HFl := Lib.hid (rfall_any hx hx.krow)
          have HTl := Lib.hid (HT1.out.trans ht)
          rw [hkl] at HFl ck
          clear hx ht HLs
          go_wp2_with fail
          refine HFl.out.mono ?_
          rintro e wm ⟨rfl, hrf, htf⟩
          have HRf := Lib.hid hrf
          have HTf := Lib.hid (HTl.out.trans htf)
          clear hrf htf HFl
          go_wp2
          go_ret
          exact ⟨by rw [HQ.out.1]; rfl, by (rw [← HSx.out, HQ.out.2]; exact HRf.out), HTf.out⟩
        | false =>
          rw [hls] at HLs
          have HQ := Lib.hid (HCn.out hls)
          clear HCy HCn
          go_wp2_with fail
          refine HLs.out.mono ?_
          rintro e wl ⟨rfl, hx, ht⟩
          have HRf : Hid (Rf X wl r (lasS sx)) := ⟨_, _, _, _, hx⟩
          have HTf := Lib.hid (HT1.out.trans ht)
          clear hx ht HLs
          go_wp2
          go_ret
          exact ⟨by rw [HQ.out.1]; rfl, by (rw [← HSx.out, HQ.out.2]; exact HRf.out), HTf.out⟩
set_option maxHeartbeats 16000000 in
set_option maxRecDepth 100000 in
theorem rappend_v7 (h : RAt X w r fa fc ka kc s) (n : Int) (d : ByteArray) (hs : d.size ≤ 1000000) (hd : s.dead = false) (h1 : ¬ (n < 0 ∨ 1000000 < n)) (hh : Dk.has s.L n = true) (hf : ¬ s.room < (used s.L : Int) + d.size) (he : ¬ d.size = 0) :
    Calls Tryz.prog 65 #[ptr r, .int .i64 n, .string d] w fun e w' => e = .returned (.int .i64 (Dk.appE s n d)) ∧ Rf X w' r (Dk.appS s n d) ∧ Tr w w' r := by
  have h2 : ¬ ((Dk.has s.L n = false ∧ 8 ≤ s.L.length) ∨ s.room < (used s.L : Int) + d.size) := fun e => e.elim (fun e => by rw [hh] at e; cases e.1) hf
  rw [(app_go hd h1 h2 he).1, (app_go hd h1 h2 he).2]
  obtain ⟨hfo, hok⟩ := h.ok.ext h1 h2 he
  have c0 := h.rm
  have c1 := h.gn
  have c4 := h.fl
  rw [hd] at c1
  have HA := Lib.hid (rat_any h n)
  unfold ixE at HA
  rw [hh] at HA
  have HU : Hid (∀ m, Calls Tryz.prog 88 #[ptr r] (w.drewN m) fun e w' => e = .returned (.int .i64 (used s.L : Int)) ∧ w' = w.drewN m) := fun m => rused_any (h.gr ((Gr.refl w).dn m))
  have HR := Lib.hid h
  have hl8 := h.ok.len
  have hr0 := h.ok.r0
  have hr1 := h.ok.r1
  have hfit := h.ok.fits
  have hd1 : decide (n < 0) = false := decide_eq_false (by omega)
  have hd2 : decide (1000000 < n) = false := decide_eq_false (by omega)
  have hfb : decide (s.room < (used s.L : Int) + (d.size : Int)) = false := decide_eq_false (by omega)
  have hemp := emp_any d
  rw [decide_eq_false he] at hemp
  have hix0 : decide ((ix s.L n : Int) < 0) = false := decide_eq_false (by omega)
  obtain ⟨hixl, _, _⟩ := ix_at hh
  clear h
  obtain ⟨i0, hi0, hz0, hz1, hz2⟩ := info_parts infoF
  clear he
  go_enter Tryz.func65, Tryz.ntmps65
  go_upto_region 6 with (go_at_call 66; refine HA.out.mono ?_; rintro e w' ⟨rfl, hw⟩; obtain rfl := hw.symm; clear hw)
  go_quiet ((go_at_call 88; exact Calls.quiet_of_same (HU.out _)))
  have HW : Hid (Gr w (w.drewN nq)) := (Gr.refl w).dn nq
  generalize w.drewN nq = w0 at *
  have HR0 := Lib.hid (HR.out.gr HW.out)
  have c4 := HR0.out.fl
  go_wp2
  go_loopw [10, 8] (fun i v wr => ∃ k : Nat, k ≤ s.L.length ∧ i = .int .i64 (k : Int) ∧ wr.ownsRow w0.heap.size 24 3 v ((s.L.take k).map (repF n (Dk.ext s.L n d))).length (((s.L.take k).map (repF n (Dk.ext s.L n d))).flatMap flf) ∧ Gr w0 wr) (fun i _ _ => s.L.length - (intOf i).toNat)
  case atStart => exact ⟨0, Nat.zero_le _, rfl, own_none _ _, Gr.refl w0⟩
  case round =>
    rename_i v
    obtain ⟨k, hk, rfl, hown, hg⟩ := hrel
    have HG := Lib.hid hg
    have HOw := Lib.hid hown
    have c4 := hg.keep c4
    have hbs := hg.size
    clear hown
    by_cases hlt : k < s.L.length
    · obtain ⟨x, off, hade, hxb, e0, e1, e2⟩ := fl_at HR0.out.row k hlt
      have e0 := hg.keep e0
      have e1 := hg.keep e1
      have e2 := hg.keep e2
      have hcat : ∀ W : World, (Op.stringOp .add s.L[k].d d).run Tryz.prog W = .ok (.string (s.L[k].d ++ d)) W := fun W => cat_run _ _ (by have := size_in HR.out.ok (List.getElem_mem hlt); omega) W
      have HT : Hid (((s.L.take (k + 1)).map (repF n (Dk.ext s.L n d))) = ((s.L.take k).map (repF n (Dk.ext s.L n d))) ++ [repF n (Dk.ext s.L n d) s.L[k]]) := by
        show _ = _
        rw [List.take_succ_eq_append_getElem hlt, List.map_append]
        rfl
      have hRl : ((s.L.take k).map (repF n (Dk.ext s.L n d))).length = k := by rw [List.length_map, List.length_take]; omega
      rw [hRl] at HOw
      obtain ⟨va, vc, rfl⟩ := own_slice HOw.out
      obtain ⟨R', eR'⟩ : ∃ R', R' = (s.L.take (k + 1)).map (repF n (Dk.ext s.L n d)) := ⟨_, rfl⟩
      rw [← eR'] at HT
      have HRe := Lib.hid eR'
      generalize (s.L.take k).map (repF n (Dk.ext s.L n d)) = R at *
      clear eR'
      subst hade
      by_cases hn : s.L[k].n = n
      · have HE : Hid (repF n (Dk.ext s.L n d) s.L[k] = ⟨n, s.L[k].d ++ d, s.L[k].y⟩) := by
          have hg2 : Dk.get s.L n = s.L[k] := by rw [← hn]; exact Dk.get_of HR.out.ok.up (List.getElem_mem hlt)
          show repF n (Dk.ext s.L n d) s.L[k] = _
          unfold repF
          rw [if_pos hn]
          unfold Dk.ext
          rw [hg2]
        clear hg
        rw [HE.out] at HT
        clear HE hok hfo
        generalize s.L[k] = f at *
        obtain ⟨fn, fd, fy⟩ := f
        simp only at *
        subst hn
        have Ra := Lib.hid (row_gr HOw.out (((Gr.refl wr).alloc (o := .cells #[.int .i64 fn, .string (fd ++ d), .int .i64 fy] 24)).alloc (o := .cells #[.int .i64 fn, .string (fd ++ d), .int .i64 fy] 24)))
        have Na := Lib.hid (fl_new1 wr (.cells #[.int .i64 fn, .string (fd ++ d), .int .i64 fy] 24) ⟨fn, (fd ++ d), fy⟩)
        go_wp2_with (first
          | (at_builtin; refine wpList_append_own _ rfl _ _ 22 rfl w0.heap.size 24 i0 (.agg #[.int .i64 0, .string ⟨#[]⟩, .int .i64 0]) 3 32 Tryz.underlying22 hi0 hz0 hz1 hz2 rfl (by decide) _ _ _ rfl Ra.out ⟨wr.heap.size + 1, 0, none⟩ 1 1 ([(⟨fn, (fd ++ d), fy⟩ : Fl)].flatMap flf) rfl rfl Na.out (flf_one _) (by unfold maxLen; omega) (by omega) (by simp; omega) ?_)
          | fail)
        intro va wa hoa hgra _
        have HGa := Lib.hid (own_gr Ra.out HG.out.alloc.alloc hgra (Nat.le_refl _))
        have HOa := Lib.hid hoa
        clear hoa hgra
        go_wp2
        go_roundw
        case rel => exact ⟨k + 1, by omega, by simp, by (rw [← HRe.out, HT.out, fl_snoc1, List.length_append, hRl]; exact HOa.out), HGa.out⟩
        case measure => simp [intOf]; omega
      · have HE : Hid (repF n (Dk.ext s.L n d) s.L[k] = s.L[k]) := by
          show repF n (Dk.ext s.L n d) s.L[k] = _
          unfold repF
          rw [if_neg hn]
        have hnb : (s.L[k].n == n) = false := by simpa using hn
        clear hg
        rw [HE.out] at HT
        clear HE hok hfo hcat
        generalize s.L[k] = f at *
        obtain ⟨fn, fd, fy⟩ := f
        simp only at *
        have Ra := Lib.hid (row_gr HOw.out (((Gr.refl wr).alloc (o := .cells #[.int .i64 fn, .string fd, .int .i64 fy] 24)).alloc (o := .cells #[.int .i64 fn, .string fd, .int .i64 fy] 24)))
        have Na := Lib.hid (fl_new1 wr (.cells #[.int .i64 fn, .string fd, .int .i64 fy] 24) ⟨fn, fd, fy⟩)
        go_wp2_with (first
          | (at_builtin; refine wpList_append_own _ rfl _ _ 22 rfl w0.heap.size 24 i0 (.agg #[.int .i64 0, .string ⟨#[]⟩, .int .i64 0]) 3 32 Tryz.underlying22 hi0 hz0 hz1 hz2 rfl (by decide) _ _ _ rfl Ra.out ⟨wr.heap.size + 1, 0, none⟩ 1 1 ([(⟨fn, fd, fy⟩ : Fl)].flatMap flf) rfl rfl Na.out (flf_one _) (by unfold maxLen; omega) (by omega) (by simp; omega) ?_)
          | fail)
        intro va wa hoa hgra _
        have HGa := Lib.hid (own_gr Ra.out HG.out.alloc.alloc hgra (Nat.le_refl _))
        have HOa := Lib.hid hoa
        clear hoa hgra
        go_wp2
        go_roundw
        case rel => exact ⟨k + 1, by omega, by simp, by (rw [← HRe.out, HT.out, fl_snoc1, List.length_append, hRl]; exact HOa.out), HGa.out⟩
        case measure => simp [intOf]; omega
    · obtain rfl : k = s.L.length := by omega
      have hri : s.L.map (repF n (Dk.ext s.L n d)) = Dk.ins (Dk.ext s.L n d) s.L := rep_ins (x := Dk.ext s.L n d) HR.out.ok.up hh
      rw [List.take_length, hri] at HOw
      clear hri
      obtain ⟨va, vc, rfl, hc1, hc2, hrow, hb, _⟩ := own_row HOw.out
      have HGz := HG
      obtain ⟨wz, hwz⟩ : ∃ x, x = wr := ⟨_, rfl⟩
      subst hwz
      clear hg HG HOw
      have HX := Lib.hid ((HR0.out.gr HGz.out).setFiles (L := Dk.ins (Dk.ext s.L n d) s.L) hrow (fun q e => ⟨by have := hb q e; have := HR0.out.lt; omega, fun hx => by have := hb q e; have := HR0.out.xl _ hx; omega⟩) hc1 hc2 hok)
      have HT1 : Hid (Tr w (wz.setCell ⟨r, 4, none⟩ (.slice va (Dk.ins (Dk.ext s.L n d) s.L).length vc)) r) := (Tr.gr (HW.out.trans HGz.out)).trans (Tr.set _ _ _ _)
      have HLs := Lib.hid (rlast_any HX.out)
      have c4z := HGz.out.keep HR0.out.fl
      have f4z := HGz.out.keepF HR0.out.lt (HR0.out.fz 4 (by omega))
      have HCy : Hid (lasB ({ s with L := Dk.ins (Dk.ext s.L n d) s.L } : St) = true → Dk.cntE s = 150 ∧ Dk.cntS ({ s with L := Dk.ins (Dk.ext s.L n d) s.L } : St) = Dk.fall (lasS ({ s with L := Dk.ins (Dk.ext s.L n d) s.L } : St)) ({ s with L := Dk.ins (Dk.ext s.L n d) s.L } : St).keep) := fun e => cnt_yes e
      have HCn : Hid (lasB ({ s with L := Dk.ins (Dk.ext s.L n d) s.L } : St) = false → Dk.cntE s = 0 ∧ Dk.cntS ({ s with L := Dk.ins (Dk.ext s.L n d) s.L } : St) = lasS ({ s with L := Dk.ins (Dk.ext s.L n d) s.L } : St)) := fun e => cnt_no hok e
      clear hrow hb HGz HX hok
      obtain ⟨sx, hsx⟩ : ∃ sx : St, sx = { s with L := Dk.ins (Dk.ext s.L n d) s.L } := ⟨_, rfl⟩
      rw [← hsx] at HLs HCy HCn
      have HSx := Lib.hid hsx
      clear hsx
      generalize (Dk.ins (Dk.ext s.L n d) s.L).length = ln at *
      cases hls : lasB sx with
      | true =>
        rw [hls] at HLs
        have HQ := Lib.hid (HCy.out hls)
        clear HCy HCn
        go_wp2_with fail
        refine HLs.out.mono ?_
        rintro e wl ⟨rfl, hx, ht⟩
        have ck := hx.kp
        have hkl : (lasS sx).keep = sx.keep := by unfold lasS; split <;> rfl
        have HFl := Lib.hid (rfall_any hx hx.krow)
        have HTl := Lib.hid (HT1.out.trans ht)
        rw [hkl] at HFl ck
        clear hx ht HLs
        go_wp2_with fail
        refine HFl.out.mono ?_
        rintro e wm ⟨rfl, hrf, htf⟩
        have HRf := Lib.hid hrf
        have HTf := Lib.hid (HTl.out.trans htf)
        clear hrf htf HFl
        go_wp2
        go_ret
        exact ⟨by rw [HQ.out.1]; rfl, by (rw [← HSx.out, HQ.out.2]; exact HRf.out), HTf.out⟩
      | false =>
        rw [hls] at HLs
        have HQ := Lib.hid (HCn.out hls)
        clear HCy HCn
        go_wp2_with fail
        refine HLs.out.mono ?_
        rintro e wl ⟨rfl, hx, ht⟩
        have HRf : Hid (Rf X wl r (lasS sx)) := ⟨_, _, _, _, hx⟩
        have HTf := Lib.hid (HT1.out.trans ht)
        clear hx ht HLs
        go_wp2
        go_ret
        exact ⟨by rw [HQ.out.1]; rfl, by (rw [← HSx.out, HQ.out.2]; exact HRf.out), HTf.out⟩
theorem rappend_any (h : RAt X w r fa fc ka kc s) (n : Int) (d : ByteArray) (hs : d.size ≤ 1000000) :
    Calls Tryz.prog 65 #[ptr r, .int .i64 n, .string d] w fun e w' => e = .returned (.int .i64 (Dk.appE s n d)) ∧ Rf X w' r (Dk.appS s n d) ∧ Tr w w' r := by
  cases hd : s.dead with
  | true => exact rappend_dead h n d hd
  | false =>
    by_cases h1 : n < 0 ∨ 1000000 < n
    · exact rappend_arg h n d hd h1
    · cases hh : Dk.has s.L n with
      | false =>
        by_cases h8 : 8 ≤ s.L.length
        · exact rappend_v1 h n d hd h1 hh h8
        · by_cases hf : s.room < (used s.L : Int) + d.size
          · exact rappend_v2 h n d hs hd h1 hh h8 hf
          · by_cases he : d.size = 0
            · exact rappend_v4 h n d hs hd h1 hh h8 hf he
            · exact rappend_v6 h n d hs hd h1 hh h8 hf he
      | true =>
        by_cases hf : s.room < (used s.L : Int) + d.size
        · exact rappend_v3 h n d hs hd h1 hh hf
        · by_cases he : d.size = 0
          · exact rappend_v5 h n d hs hd h1 hh hf he
          · exact rappend_v7 h n d hs hd h1 hh hf he
end Go.Proofs.YtojmhhmpmpbpfaaGreatDoor
