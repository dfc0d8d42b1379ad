
/- The statements' own: acts in memory, Few, awake; calls on a disk that is new since a world. -/
import Derived.Test.YtpnlebegenkdkaaDkE
import Derived.Test.YtpnlebegenkdkaaDkI
import Derived.Test.YtpnlebegenkdkaaDkH
namespace Go.Proofs.Ytpnlebegenkdkaa
open Go.RowKit Go.Maps
open Dk (Fl Fo St Ok Up zf emp used cutF fallA kf)
variable {a w w' : World} {b m : Nat} {s : St}

theorem New.ok (h : New a w b m s) : Ok s := by
  obtain ⟨⟨A, h1⟩, _, _, _⟩ := h
  exact h1.ok
theorem n_append (h : New a w b m s) (n : Int) (d : ByteArray) : Calls Try.prog 18 #[ptr b, .int .i64 n, .string d] w fun e w' => e = .returned (.int .i64 (Dk.appE s n d)) ∧ New a w' b m (Dk.appS s n d) := by
  obtain ⟨A, h1⟩ := h.at_
  refine (append_any h1 n d).mono ?_
  rintro e w2 ⟨rfl, r⟩
  exact ⟨rfl, h.far r⟩
theorem n_sync (h : New a w b m s) {n : Int} (h0 : -9223372036854775808 ≤ n) (h1 : n ≤ 9223372036854775807) : Calls Try.prog 19 #[ptr b, .int .i64 n] w fun e w' => e = .returned (.int .i64 (Dk.stpE s 1 n 0)) ∧ New a w' b m (Dk.stpS s 1 n 0) := by
  obtain ⟨A, h2⟩ := h.at_
  refine (sync_any h2 h0 h1).mono ?_
  rintro e w2 ⟨rfl, r⟩
  exact ⟨rfl, h.far r⟩
theorem n_cut (h : New a w b m s) {n : Int} (h0 : -9223372036854775808 ≤ n) (h1 : n ≤ 9223372036854775807) (k : Int) : Calls Try.prog 20 #[ptr b, .int .i64 n, .int .i64 k] w fun e w' => e = .returned (.int .i64 (Dk.stpE s 2 n k)) ∧ New a w' b m (Dk.stpS s 2 n k) := by
  obtain ⟨A, h2⟩ := h.at_
  refine (cut_any h2 h0 h1 k).mono ?_
  rintro e w2 ⟨rfl, r⟩
  exact ⟨rfl, h.far r⟩
theorem n_remove (h : New a w b m s) {n : Int} (h0 : -9223372036854775808 ≤ n) (h1 : n ≤ 9223372036854775807) : Calls Try.prog 21 #[ptr b, .int .i64 n] w fun e w' => e = .returned (.int .i64 (Dk.stpE s 3 n 0)) ∧ New a w' b m (Dk.stpS s 3 n 0) := by
  obtain ⟨A, h2⟩ := h.at_
  refine (remove_any h2 h0 h1).mono ?_
  rintro e w2 ⟨rfl, r⟩
  exact ⟨rfl, h.far r⟩
theorem n_arm (h : New a w b m s) {n : Int} (h1 : n ≤ 9223372036854775807) {ad : Option Addr} {cap : Nat} {l : List Int} (hl : KAt w ad cap l) : Calls Try.prog 22 #[ptr b, .int .i64 n, .slice ad l.length cap] w fun e w' => e = .returned (.int .i64 (Dk.armE s n)) ∧ New a w' b m (Dk.armS s n l) := by
  obtain ⟨A, h2⟩ := h.at_
  refine (arm_any h2 h1 hl).mono ?_
  rintro e w2 ⟨rfl, r⟩
  exact ⟨rfl, h.far r⟩
theorem n_crash (h : New a w b m s) {ad : Option Addr} {cap : Nat} {l : List Int} (hl : KAt w ad cap l) : Calls Try.prog 23 #[ptr b, .slice ad l.length cap] w fun e w' => e = .returned (.int .i64 (Dk.craE s)) ∧ New a w' b m (Dk.craS s l) := by
  obtain ⟨A, h2⟩ := h.at_
  refine (crash_any h2 hl).mono ?_
  rintro e w2 ⟨rfl, r⟩
  exact ⟨rfl, h.far r⟩
theorem n_boot (h : New a w b m s) : Calls Try.prog 24 #[ptr b] w fun e w' => e = .returned (.int .i64 0) ∧ New a w' b m (Dk.booS s) := by
  obtain ⟨A, h2⟩ := h.at_
  refine (boot_any h2).mono ?_
  rintro e w2 ⟨rfl, r⟩
  exact ⟨rfl, h.far r⟩
theorem n_dead (h : New a w b m s) : Calls Try.prog 25 #[ptr b] w fun e w' => e = .returned (.bool s.dead) ∧ New a w' b m s := by
  obtain ⟨A, h2⟩ := h.at_
  refine (dead_any h2).mono ?_
  rintro e w2 ⟨rfl, rfl⟩
  exact ⟨rfl, h⟩
theorem n_read (h : New a w b m s) {n : Int} (h0 : -9223372036854775808 ≤ n) (h1 : n ≤ 9223372036854775807) : Calls Try.prog 17 #[ptr b, .int .i64 n] w fun e w' => e = .returned (.tuple #[.string (fndF s n).d, .int .i64 (fndE s n)]) ∧ New a w' b m s := by
  obtain ⟨A, h2⟩ := h.at_
  refine (read_any h2 h0 h1).mono ?_
  rintro e w2 ⟨rfl, g⟩
  exact ⟨rfl, h.up g⟩
theorem n_used (h : New a w b m s) : Calls Try.prog 26 #[ptr b] w fun e w' => e = .returned (.int .i64 (used s.L : Int)) ∧ New a w' b m s := by
  obtain ⟨A, h2⟩ := h.at_
  refine (used_any h2).mono ?_
  rintro e w2 ⟨rfl, g⟩
  exact ⟨rfl, h.up g⟩
/- a row of files that was answered: it lies in a block that is neither of the disk's -/
def Img (a w : World) (b m : Nat) (L : List Fl) (v : Value) : Prop := ∃ ad cap, v = .slice ad L.length cap ∧ RowAt flf w ad L ∧ (∀ p, ad = some p → a.heap.size ≤ p.block ∧ p.block ≠ b ∧ p.block ≠ m)
theorem n_image (h : New a w b m s) : Calls Try.prog 28 #[ptr b] w fun e w' => ∃ v, e = .returned v ∧ Img a w' b m s.L v ∧ New a w' b m s := by
  obtain ⟨A, h2⟩ := h.at_
  refine (image_any h2).mono ?_
  rintro e w2 ⟨ad, cap, rfl, hr, hb, g⟩
  refine ⟨_, rfl, ⟨ad, cap, rfl, hr, fun p e => ?_⟩, h.up g⟩
  have := hb p e
  have := h.gr.size
  have := h2.lt
  have := h2.fl.lt
  exact ⟨by omega, by omega, by omega⟩
theorem Img.td {L : List Fl} {v : Value} (h : Img a w b m L v) (t : Td w w' b m) : Img a w' b m L v := by
  obtain ⟨ad, cap, rfl, hr, hb⟩ := h
  exact ⟨ad, cap, rfl, t.row hr (fun p e => (hb p e).2), hb⟩
theorem n_files (h : New a w b m s) : Calls Try.prog 27 #[ptr b] w fun e w' => ∃ ad cap, e = .returned (.slice ad s.L.length cap) ∧ RowAt nf w' ad s.L ∧ (∀ p, ad = some p → a.heap.size ≤ p.block ∧ p.block ≠ b ∧ p.block ≠ m) ∧ New a w' b m s := by
  obtain ⟨A, h2⟩ := h.at_
  refine (files_any h2).mono ?_
  rintro e w2 ⟨v, rfl, hrow, hnil, g⟩
  rw [nms_flat] at hrow
  obtain ⟨ad, cap, rfl, _, _, hR, hbase, _⟩ := own_row hrow
  refine ⟨ad, cap, rfl, hR, fun p e => ?_, h.up g⟩
  have := hbase p e
  have := h.gr.size
  have := h2.lt
  have := h2.fl.lt
  exact ⟨by omega, by omega, by omega⟩

/- acts -/
structure Ac where
  k : Int
  n : Int
  z : Int
  d : ByteArray
  ka : Option Addr
  kc : Nat
  K : List Int
def acf (x : Ac) : List Value := [.int .i64 x.k, .int .i64 x.n, .int .i64 x.z, .string x.d, .slice x.ka x.K.length x.kc]
theorem acf_len (x : Ac) : (acf x).length = 5 := rfl
structure AcIn (w : World) (x : Ac) : Prop where
  k0 : -9223372036854775808 ≤ x.k
  k1 : x.k ≤ 9223372036854775807
  n0 : -9223372036854775808 ≤ x.n
  n1 : x.n ≤ 9223372036854775807
  z0 : -9223372036854775808 ≤ x.z
  z1 : x.z ≤ 9223372036854775807
  d1 : x.d.size ≤ 9223372036854775807
  K1 : x.K.length ≤ 9223372036854775807
  row : KAt w x.ka x.kc x.K
theorem AcIn.gr {x : Ac} (h : AcIn w x) (g : Gr w w') : AcIn w' x := ⟨h.k0, h.k1, h.n0, h.n1, h.z0, h.z1, h.d1, h.K1, h.row.gr g⟩
structure Acts (w : World) (ad : Option Addr) (T : List Ac) : Prop where
  row : RowAt acf w ad T
  len : T.length ≤ 9223372036854775807
  each : ∀ x ∈ T, AcIn w x
theorem Acts.gr {ad : Option Addr} {T : List Ac} (h : Acts w ad T) (g : Gr w w') : Acts w' ad T := ⟨h.row.gr g, h.len, fun x hx => (h.each x hx).gr g⟩
theorem ac_at {T : List Ac} {ad : Option Addr} (h : RowAt acf w ad T) (k : Nat) (hk : k < T.length) : ∃ x off, ad = some ⟨x, off, none⟩ ∧ x < w.heap.size ∧ w.cell? ⟨x, off + k * 5, none⟩ = some (.int .i64 T[k].k) ∧ w.cell? ⟨x, off + k * 5 + 1, none⟩ = some (.int .i64 T[k].n) ∧ w.cell? ⟨x, off + k * 5 + 2, none⟩ = some (.int .i64 T[k].z) ∧ w.cell? ⟨x, off + k * 5 + 3, none⟩ = some (.string T[k].d) ∧ w.cell? ⟨x, off + k * 5 + 4, none⟩ = some (.slice T[k].ka T[k].K.length T[k].kc) := by
  obtain ⟨x, off, e, h1, h2⟩ := h _ _ (flat_get acf_len T k hk 0 (by omega))
  obtain ⟨x1, off1, e1, _, h3⟩ := h _ _ (flat_get acf_len T k hk 1 (by omega))
  obtain ⟨x2, off2, e2, _, h4⟩ := h _ _ (flat_get acf_len T k hk 2 (by omega))
  obtain ⟨x3, off3, e3, _, h5⟩ := h _ _ (flat_get acf_len T k hk 3 (by omega))
  obtain ⟨x4, off4, e4, _, h6⟩ := h _ _ (flat_get acf_len T k hk 4 (by omega))
  subst e
  cases e1; cases e2; cases e3; cases e4
  rw [← Nat.add_assoc] at h3 h4 h5 h6
  exact ⟨_, _, rfl, h1, h2, h3, h4, h5, h6⟩
/- Few -/
def wgt (x : Ac) : Int := 50 + min (x.d.size : Int) 300000 + 10 * min (x.K.length : Int) 100000
def fewA : Int → List Ac → Bool
  | _, [] => true
  | n, x :: r => if 60000 < n + wgt x then false else fewA (n + wgt x) r
abbrev fewB (T : List Ac) : Bool := fewA 0 T
theorem wgt_pos (x : Ac) : 50 ≤ wgt x := by unfold wgt; omega
theorem fewA_in : ∀ (T : List Ac) {n : Int}, 0 ≤ n → fewA n T = true → ∀ x ∈ T, x.d.size ≤ 60000 ∧ x.K.length ≤ 6000
  | [], _, _, _ => fun x hx => by cases hx
  | y :: r, n, h0, h => by
    simp only [fewA] at h
    split at h
    · cases h
    · rename_i c
      have h5 := wgt_pos y
      have ih := fewA_in r (by omega) h
      intro x hx
      rcases List.mem_cons.1 hx with rfl | hx
      · unfold wgt at c; omega
      · exact ih x hx
theorem fewA_drop {n : Int} {T : List Ac} {k : Nat} (h : k < T.length) : fewA n (T.drop k) = if 60000 < n + wgt T[k] then false else fewA (n + wgt T[k]) (T.drop (k + 1)) := by
  rw [List.drop_eq_getElem_cons h]
  rfl
set_option maxHeartbeats 8000000 in
set_option maxRecDepth 100000 in
theorem few_any (T : List Ac) (ad : Option Addr) (cap : Nat) (w : World) (hT : Acts w ad T) :
    Calls Try.prog 9 #[.slice ad T.length cap] w fun e w' => e = .returned (.bool (fewB T)) ∧ Gr w w' := by
  have HT := Lib.hid hT
  have hln := hT.len
  clear hT
  go_enter Try.func9, Try.ntmps9
  go_wp2
  go_loopw [4, 3] (fun i c wr => ∃ (k : Nat) (n : Int), k ≤ T.length ∧ i = .int .i64 (k : Int) ∧ c = .int .i64 n ∧ 0 ≤ n ∧ n ≤ 60000 ∧ fewB T = fewA n (T.drop k) ∧ Gr w wr) (fun i _ _ => T.length - (intOf i).toNat)
  case atStart => exact ⟨0, 0, Nat.zero_le _, rfl, rfl, by omega, by omega, rfl, Gr.refl w⟩
  case round =>
    obtain ⟨k, n, hk, rfl, rfl, hn0, hn1, hf, hg⟩ := hrel
    by_cases hlt : k < T.length
    · obtain ⟨x, off, hade, hxb, _, _, _, c3, c4⟩ := ac_at HT.out.row k hlt
      have c3 := hg.keep c3
      have c4 := hg.keep c4
      have hd1 := (HT.out.each _ (List.getElem_mem hlt)).d1
      have hK1 := (HT.out.each _ (List.getElem_mem hlt)).K1
      rw [fewA_drop hlt] at hf
      have hw : wgt T[k] = 50 + min (T[k].d.size : Int) 300000 + 10 * min (T[k].K.length : Int) 100000 := rfl
      have hw5 := wgt_pos T[k]
      have HF := Lib.hid hf
      have HG := Lib.hid hg
      subst hade
      clear hf hg
      generalize hwg : wgt T[k] = wg at *
      generalize T[k] = y at *
      obtain ⟨yk, yn, yz, yd, ya, yc, yK⟩ := y
      simp only at *
      have hsum : n + (50 + min (yd.size : Int) 300000 + 10 * min (yK.length : Int) 100000) = n + wg := by rw [hw]
      go_wp2
      go_region
      by_cases h6 : 60000 < n + wg
      · have d6 : decide (60000 < n + wg) = true := decide_eq_true h6
        have HF2 : Hid (fewB T = false) := by have := HF.out; rw [if_pos h6] at this; exact this
        go_wp2
        go_ret
        exact ⟨by rw [HF2.out]; rfl, HG.out.drew⟩
      · have d6 : decide (60000 < n + wg) = false := decide_eq_false h6
        have HF2 : Hid (fewB T = fewA (n + wg) (T.drop (k + 1))) := by have := HF.out; rw [if_neg h6] at this; exact this
        go_wp2
        go_roundw
        case rel => exact ⟨k + 1, n + wg, by omega, by simp, rfl, by omega, by omega, HF2.out, HG.out.drew⟩
        case measure => simp [intOf]; omega
    · obtain rfl : k = T.length := by omega
      rw [List.drop_length] at hf
      have HF : Hid (fewB T = true) := hf
      have HG := Lib.hid hg
      clear hf hg
      go_wp2
      go_ret
      exact ⟨by rw [HF.out]; rfl, HG.out⟩
/- awake -/
abbrev s0 : St := ⟨[], 100, false, 0, []⟩
abbrev s1 : St := ⟨[⟨1, ⟨#[97, 98]⟩, 0⟩], 100, false, 0, []⟩
abbrev s2 : St := ⟨[⟨1, ⟨#[97, 98]⟩, 2⟩], 100, false, 0, []⟩
abbrev s3 : St := ⟨[⟨1, ⟨#[97, 98, 99, 100]⟩, 2⟩], 100, false, 0, []⟩
abbrev s4 : St := ⟨[⟨1, ⟨#[97, 98, 99]⟩, 3⟩], 100, true, 0, []⟩
abbrev s5 : St := ⟨[⟨1, ⟨#[97, 98, 99]⟩, 3⟩], 100, false, 0, []⟩
theorem aw1 : Dk.appE s0 1 ⟨#[97, 98]⟩ = 0 ∧ Dk.appS s0 1 ⟨#[97, 98]⟩ = s1 := ⟨by kernel_rfl, by kernel_rfl⟩
theorem aw2 : Dk.stpE s1 1 1 0 = 0 ∧ Dk.stpS s1 1 1 0 = s2 := ⟨by kernel_rfl, by kernel_rfl⟩
theorem aw3 : Dk.appE s2 1 ⟨#[99, 100]⟩ = 0 ∧ Dk.appS s2 1 ⟨#[99, 100]⟩ = s3 := ⟨by kernel_rfl, by kernel_rfl⟩
theorem aw4 : Dk.craE s3 = 0 ∧ Dk.craS s3 [1] = s4 := ⟨by kernel_rfl, by kernel_rfl⟩
theorem aw5 : Dk.appE s4 1 ⟨#[120]⟩ = 150 ∧ Dk.appS s4 1 ⟨#[120]⟩ = s4 := ⟨by kernel_rfl, by kernel_rfl⟩
theorem aw6 : Dk.booS s4 = s5 := rfl
theorem aw7 : fndF s5 1 = ⟨1, ⟨#[97, 98, 99]⟩, 3⟩ ∧ fndE s5 1 = 0 ∧ fndF s5 2 = zf 0 ∧ fndE s5 2 = 152 ∧ used s5.L = 3 := ⟨by kernel_rfl, by kernel_rfl, by kernel_rfl, by kernel_rfl, by kernel_rfl⟩
theorem may100 : mayL 100 [] = true := by kernel_rfl
set_option maxHeartbeats 8000000 in
set_option maxRecDepth 100000 in
theorem awake_any (w : World) : Calls Try.prog 10 #[] w fun e w' => e = .returned (.bool true) ∧ Gr w w' := by
  have HN : Hid (Calls Try.prog 11 #[.int .i64 100] w fun e w' => ∃ b m, e = .returned (.tuple #[ptr b, .int .i64 0]) ∧ New w w' b m s0) := by
    refine (new_any 100 w (by omega)).mono ?_
    intro e w' h
    unfold LdR at h
    rw [may100] at h
    exact h
  have H1 : Hid (∀ w' b m, New w w' b m s0 → Calls Try.prog 18 #[ptr b, .int .i64 1, .string ⟨#[97, 98]⟩] w' fun e w2 => e = .returned (.int .i64 0) ∧ New w w2 b m s1) := fun w' b m h => by have := n_append h 1 ⟨#[97, 98]⟩; rw [aw1.1, aw1.2] at this; exact this
  have H2 : Hid (∀ w' b m, New w w' b m s1 → Calls Try.prog 19 #[ptr b, .int .i64 1] w' fun e w2 => e = .returned (.int .i64 0) ∧ New w w2 b m s2) := fun w' b m h => by have := n_sync h (n := 1) (by omega) (by omega); rw [aw2.1, aw2.2] at this; exact this
  have H3 : Hid (∀ w' b m, New w w' b m s2 → Calls Try.prog 18 #[ptr b, .int .i64 1, .string ⟨#[99, 100]⟩] w' fun e w2 => e = .returned (.int .i64 0) ∧ New w w2 b m s3) := fun w' b m h => by have := n_append h 1 ⟨#[99, 100]⟩; rw [aw3.1, aw3.2] at this; exact this
  have H4 : Hid (∀ w' b m g, New w w' b m s3 → w'.cell? ⟨g, 0, none⟩ = some (.int .i64 1) → Calls Try.prog 23 #[ptr b, .slice (some ⟨g, 0, none⟩) 1 1] w' fun e w2 => e = .returned (.int .i64 0) ∧ New w w2 b m s4) := fun w' b m g h hc => by
    have hk : KAt w' (some ⟨g, 0, none⟩) 1 [1] := ⟨fun j hj => ⟨g, 0, rfl, World.block_lt_of_cell? w' _ hc, by simp at hj; subst hj; exact hc⟩, fun e => by cases e⟩
    have := n_crash h hk
    rw [aw4.1, aw4.2] at this
    exact this
  have H5 : Hid (∀ w' b m, New w w' b m s4 → Calls Try.prog 25 #[ptr b] w' fun e w2 => e = .returned (.bool true) ∧ New w w2 b m s4) := fun w' b m h => n_dead h
  have H6 : Hid (∀ w' b m, New w w' b m s4 → Calls Try.prog 18 #[ptr b, .int .i64 1, .string ⟨#[120]⟩] w' fun e w2 => e = .returned (.int .i64 150) ∧ New w w2 b m s4) := fun w' b m h => by have := n_append h 1 ⟨#[120]⟩; rw [aw5.1, aw5.2] at this; exact this
  have H7 : Hid (∀ w' b m, New w w' b m s4 → Calls Try.prog 24 #[ptr b] w' fun e w2 => e = .returned (.int .i64 0) ∧ New w w2 b m s5) := fun w' b m h => by have := n_boot h; rw [aw6] at this; exact this
  have H8 : Hid (∀ w' b m, New w w' b m s5 → Calls Try.prog 17 #[ptr b, .int .i64 1] w' fun e w2 => e = .returned (.tuple #[.string ⟨#[97, 98, 99]⟩, .int .i64 0]) ∧ New w w2 b m s5) := fun w' b m h => by have := n_read h (n := 1) (by omega) (by omega); rw [aw7.1, aw7.2.1] at this; exact this
  have H9 : Hid (∀ w' b m, New w w' b m s5 → Calls Try.prog 17 #[ptr b, .int .i64 2] w' fun e w2 => e = .returned (.tuple #[.string ⟨#[]⟩, .int .i64 152]) ∧ New w w2 b m s5) := fun w' b m h => by have := n_read h (n := 2) (by omega) (by omega); rw [aw7.2.2.1, aw7.2.2.2.1] at this; exact this
  have H10 : Hid (∀ w' b m, New w w' b m s5 → Calls Try.prog 26 #[ptr b] w' fun e w2 => e = .returned (.int .i64 3) ∧ New w w2 b m s5) := fun w' b m h => by have := n_used h; rw [aw7.2.2.2.2] at this; exact this
  go_enter Try.func10, Try.ntmps10
  go_wp2_with fail
  refine HN.out.mono ?_
  rintro e w0 ⟨b, m, rfl, hn⟩
  have N0 := Lib.hid hn
  clear hn HN
  go_wp2_with fail
  refine (H1.out _ _ _ N0.out).mono ?_
  rintro e w1 ⟨rfl, hn⟩
  have N1 := Lib.hid hn
  clear hn N0
  go_wp2_with fail
  refine (H2.out _ _ _ N1.out).mono ?_
  rintro e w2 ⟨rfl, hn⟩
  have N2 := Lib.hid hn
  clear hn N1
  go_wp2_with fail
  refine (H3.out _ _ _ N2.out).mono ?_
  rintro e w3 ⟨rfl, hn⟩
  have N3 := Lib.hid hn
  clear hn N2
  go_wp2_with fail
  refine (H4.out _ _ _ _ (N3.out.up (Gr.refl _).alloc) (by simp)).mono ?_
  rintro e w4 ⟨rfl, hn⟩
  have N4 := Lib.hid hn
  clear hn N3
  go_wp2_with fail
  refine (H5.out _ _ _ N4.out).mono ?_
  rintro e w5 ⟨rfl, hn⟩
  have N5 := Lib.hid hn
  clear hn N4
  go_wp2_with fail
  refine (H6.out _ _ _ N5.out).mono ?_
  rintro e w6 ⟨rfl, hn⟩
  have N6 := Lib.hid hn
  clear hn N5
  go_wp2_with fail
  refine (H7.out _ _ _ N6.out).mono ?_
  rintro e w7 ⟨rfl, hn⟩
  have N7 := Lib.hid hn
  clear hn N6
  go_wp2_with fail
  refine (H8.out _ _ _ N7.out).mono ?_
  rintro e w8 ⟨rfl, hn⟩
  have N8 := Lib.hid hn
  clear hn N7
  go_wp2_with fail
  refine (H9.out _ _ _ N8.out).mono ?_
  rintro e w9 ⟨rfl, hn⟩
  have N9 := Lib.hid hn
  clear hn N8
  go_wp2_with fail
  refine (H10.out _ _ _ N9.out).mono ?_
  rintro e w10 ⟨rfl, hn⟩
  have G10 := Lib.hid hn.gr
  clear hn N9
  go_wp2
  go_ret
  exact ⟨rfl, G10.out⟩
end Go.Proofs.Ytpnlebegenkdkaa
