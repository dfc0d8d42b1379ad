
/- For every two rows of acts and every number: what was synced of that file stays through whatever is done to others, and through appending, syncing and crashes (DiskSyncs, P15.6); no condition. -/
import Derived.Test.YtpnlebegenkdkaaOpenK
import Derived.Test.YtpnlebegenkdkaaDkV
import Derived.Deep.CutBlock
namespace Go.Proofs.Ytpnlebegenkdkaa
open Go.ChangeShapes Go.WideShapes Go.ChangeAt Go.RowKit
open Dk (Fl Fo St Ok Up zf used Sf)
/- a disk of which some bytes of a file are safe -/
structure Sn (a w : World) (b m : Nat) (n : Int) (safe : ByteArray) : Prop where
  ex : ∃ s, New a w b m s ∧ Sf s n safe
variable {a w w' : World} {b m : Nat} {n : Int} {safe : ByteArray}
theorem Sn.gr (h : Sn a w b m n safe) : Gr a w := by
  obtain ⟨s, h1, _⟩ := h.ex
  exact h1.gr
theorem Sn.up (h : Sn a w b m n safe) (g : Gr w w') : Sn a w' b m n safe := by
  obtain ⟨s, h1, h2⟩ := h.ex
  exact ⟨s, h1.up g, h2⟩
theorem sn_app (h : Sn a w b m n safe) (k : Int) (d : ByteArray) : Calls Try.prog 18 #[ptr b, .int .i64 k, .string d] w fun e w' => ∃ v, e = .returned (.int .i64 v) ∧ Sn a w' b m n safe := by
  obtain ⟨s, h1, h2⟩ := h.ex
  refine (n_append h1 k d).mono ?_
  rintro e w2 ⟨rfl, q⟩
  exact ⟨_, rfl, _, q, h2.app h1.ok k d⟩
theorem sn_sync (h : Sn a w b m n safe) {k : Int} (h0 : -9223372036854775808 ≤ k) (h1 : k ≤ 9223372036854775807) : Calls Try.prog 19 #[ptr b, .int .i64 k] w fun e w' => ∃ v, e = .returned (.int .i64 v) ∧ Sn a w' b m n safe := by
  obtain ⟨s, h2, h3⟩ := h.ex
  refine (n_sync h2 h0 h1).mono ?_
  rintro e w2 ⟨rfl, q⟩
  exact ⟨_, rfl, _, q, h3.stp h2.ok (fun _ => rfl)⟩
theorem sn_remove (h : Sn a w b m n safe) {k : Int} (h0 : -9223372036854775808 ≤ k) (h1 : k ≤ 9223372036854775807) (hk : k ≠ n) : Calls Try.prog 21 #[ptr b, .int .i64 k] w fun e w' => ∃ v, e = .returned (.int .i64 v) ∧ Sn a w' b m n safe := by
  obtain ⟨s, h2, h3⟩ := h.ex
  refine (n_remove h2 h0 h1).mono ?_
  rintro e w2 ⟨rfl, q⟩
  exact ⟨_, rfl, _, q, h3.stp h2.ok (fun e => absurd e hk)⟩
theorem sn_arm (h : Sn a w b m n safe) {k : Int} (h1 : k ≤ 9223372036854775807) {ad : Option Addr} {cap : Nat} {l : List Int} (hl : KAt w ad cap l) : Calls Try.prog 22 #[ptr b, .int .i64 k, .slice ad l.length cap] w fun e w' => ∃ v, e = .returned (.int .i64 v) ∧ Sn a w' b m n safe := by
  obtain ⟨s, h2, h3⟩ := h.ex
  refine (n_arm h2 h1 hl).mono ?_
  rintro e w2 ⟨rfl, q⟩
  exact ⟨_, rfl, _, q, h3.arm _ _⟩
theorem sn_crash (h : Sn a w b m n safe) {ad : Option Addr} {cap : Nat} {l : List Int} (hl : KAt w ad cap l) : Calls Try.prog 23 #[ptr b, .slice ad l.length cap] w fun e w' => ∃ v, e = .returned (.int .i64 v) ∧ Sn a w' b m n safe := by
  obtain ⟨s, h2, h3⟩ := h.ex
  refine (n_crash h2 hl).mono ?_
  rintro e w2 ⟨rfl, q⟩
  exact ⟨_, rfl, _, q, h3.cra h2.ok _⟩
theorem sn_boot (h : Sn a w b m n safe) : Calls Try.prog 24 #[ptr b] w fun e w' => ∃ v, e = .returned (.int .i64 v) ∧ Sn a w' b m n safe := by
  obtain ⟨s, h2, h3⟩ := h.ex
  refine (n_boot h2).mono ?_
  rintro e w2 ⟨rfl, q⟩
  exact ⟨_, rfl, _, q, h3.boo⟩
/- the file as it is found: it has the safe bytes -/
structure Gf (safe : ByteArray) (f : Fl) (is : Bool) : Prop where
  ex : 0 < safe.size → is = true ∧ (safe.size : Int) ≤ f.y ∧ safe.size ≤ f.d.size ∧ f.d.extract 0 safe.size = safe
def SnI (a w : World) (b m : Nat) (n : Int) (safe : ByteArray) (v : Value) : Prop := ∃ ad cap, ∃ L : List Fl, v = .slice ad L.length cap ∧ RowAt flf w ad L ∧ L.length ≤ 8 ∧ Gf safe (Dk.get L n) (Dk.has L n) ∧ Sn a w b m n safe
theorem sn_image (h : Sn a w b m n safe) : Calls Try.prog 28 #[ptr b] w fun e w' => ∃ v, e = .returned v ∧ SnI a w' b m n safe v := by
  obtain ⟨s, h2, h3⟩ := h.ex
  refine (n_image h2).mono ?_
  rintro e w2 ⟨v, rfl, ⟨ad, cap, rfl, hr, _⟩, q⟩
  exact ⟨_, rfl, ad, cap, s.L, rfl, hr, h2.ok.len, ⟨fun hp => h3.get h2.ok hp⟩, s, q, h3⟩
theorem sn_find {v : Value} (h : SnI a w b m n safe v) : Calls Try.prog 30 #[v, .int .i64 n] w fun e w' => ∃ f is, e = .returned (.tuple #[flV f, .bool is]) ∧ Gf safe f is ∧ Sn a w' b m n safe := by
  obtain ⟨ad, cap, L, rfl, hr, hl, hg, hs⟩ := h
  refine (find15_any L n ad cap w hr (by omega)).mono ?_
  rintro e w2 ⟨rfl, g⟩
  exact ⟨_, _, rfl, hg, hs.up g⟩
set_option maxHeartbeats 16000000 in
set_option maxRecDepth 100000 in
theorem syncs_l1 (T U : List Ac) (n : Int) (ad au : Option Addr) (cap cu : Nat) (w : World) (hT : Acts w ad T) (hU : Acts w au U) (h1 : fewB T = false) :
    Calls Try.prog 7 #[.slice ad T.length cap, .slice au U.length cu, .int .i64 n] w fun e w' => e = .returned (.bool true) ∧ Gr w w' := by
  have HAw : Hid (∀ w', Calls Try.prog 10 #[] w' fun e w2 => e = .returned (.bool true) ∧ Gr w' w2) := fun w' => awake_any w'
  have HF := Lib.hid (few_any T ad cap w hT)
  have HF2 : Hid (∀ w', Gr w w' → Calls Try.prog 9 #[.slice au U.length cu] w' fun e w2 => e = .returned (.bool (fewB U)) ∧ Gr w' w2) := fun w' g => few_any U au cu w' (hU.gr g)
  rw [h1] at HF
  clear hT hU HF2
  go_enter Try.func7, Try.ntmps7
  go_wp2_with fail
  refine HF.out.mono ?_
  rintro e w1 ⟨rfl, hg1⟩
  have G1 := Lib.hid hg1
  clear hg1 HF
  go_wp2_with fail
  refine (HAw.out _).mono ?_
  rintro e w2 ⟨rfl, hg2⟩
  have G2 := Lib.hid (G1.out.trans hg2)
  clear hg2 HAw
  go_wp2
  go_ret
  exact ⟨rfl, G2.out⟩
set_option maxHeartbeats 16000000 in
set_option maxRecDepth 100000 in
theorem syncs_l2 (T U : List Ac) (n : Int) (ad au : Option Addr) (cap cu : Nat) (w : World) (hT : Acts w ad T) (hU : Acts w au U) (h1 : fewB T = true) (h2 : fewB U = false) :
    Calls Try.prog 7 #[.slice ad T.length cap, .slice au U.length cu, .int .i64 n] w fun e w' => e = .returned (.bool true) ∧ Gr w w' := by
  have HAw : Hid (∀ w', Calls Try.prog 10 #[] w' fun e w2 => e = .returned (.bool true) ∧ Gr w' w2) := fun w' => awake_any w'
  have HF := Lib.hid (few_any T ad cap w hT)
  have HF2 : Hid (∀ w', Gr w w' → Calls Try.prog 9 #[.slice au U.length cu] w' fun e w2 => e = .returned (.bool (fewB U)) ∧ Gr w' w2) := fun w' g => few_any U au cu w' (hU.gr g)
  rw [h1] at HF
  rw [h2] at HF2
  clear hT hU
  go_enter Try.func7, Try.ntmps7
  go_wp2_with fail
  refine HF.out.mono ?_
  rintro e w1 ⟨rfl, hg1⟩
  have G1 := Lib.hid hg1
  clear hg1 HF
  go_wp2_with fail
  refine (HF2.out _ G1.out).mono ?_
  rintro e w2 ⟨rfl, hg2⟩
  have G2 := Lib.hid (G1.out.trans hg2)
  clear hg2 HF2 G1
  go_wp2_with fail
  refine (HAw.out _).mono ?_
  rintro e w3 ⟨rfl, hg3⟩
  have G3 := Lib.hid (G2.out.trans hg3)
  clear hg3 HAw
  go_wp2
  go_ret
  exact ⟨rfl, G3.out⟩
set_option maxHeartbeats 16000000 in
set_option maxRecDepth 100000 in
theorem syncs_main (T U : List Ac) (n : Int) (ad au : Option Addr) (cap cu : Nat) (w : World) (hT : Acts w ad T) (hU : Acts w au U) (h1 : fewB T = true) (h2 : fewB U = true) :
    Calls Try.prog 7 #[.slice ad T.length cap, .slice au U.length cu, .int .i64 n] w fun e w' => e = .returned (.bool true) ∧ Gr w w' := by
  have HAw : Hid (∀ w', Calls Try.prog 10 #[] w' fun e w2 => e = .returned (.bool true) ∧ Gr w' w2) := fun w' => awake_any w'
  have HF := Lib.hid (few_any T ad cap w hT)
  have HF2 : Hid (∀ w', Gr w w' → Calls Try.prog 9 #[.slice au U.length cu] w' fun e w2 => e = .returned (.bool (fewB U)) ∧ Gr w' w2) := fun w' g => few_any U au cu w' (hU.gr g)
  rw [h1] at HF
  rw [h2] at HF2
  have HP : Hid (∀ w', Gr w w' → Calls Try.prog 29 #[.int .i64 90000, .slice ad T.length cap] w' fun e w2 => ∃ b m, e = .returned (ptr b) ∧ New w' w2 b m (plL (Dk.new 90000 []) T)) := fun w' g => played_any 90000 T ad cap w' (hT.gr g) (by omega) (by omega)
  have HU := Lib.hid hU
  have hln := hU.len
  clear hT hU
  generalize plL (Dk.new 90000 []) T = s0 at *
  go_enter Try.func7, Try.ntmps7
  go_wp2_with fail
  refine HF.out.mono ?_
  rintro e w1 ⟨rfl, hg1⟩
  have G1 := Lib.hid hg1
  clear hg1 HF
  go_wp2_with fail
  refine (HF2.out _ G1.out).mono ?_
  rintro e w2 ⟨rfl, hg2⟩
  have G2 := Lib.hid (G1.out.trans hg2)
  clear hg2 HF2 G1
  go_wp2_with fail
  refine (HP.out _ G2.out).mono ?_
  rintro e w3 ⟨b, m, rfl, hn⟩
  have HB := Lib.hid (n_boot hn)
  clear hn HP
  go_wp2_with fail
  refine HB.out.mono ?_
  rintro e w4 ⟨rfl, hn⟩
  generalize Dk.booS s0 = s at *
  have HI := Lib.hid (n_image hn)
  have HO := Lib.hid hn.ok
  clear hn HB
  go_wp2_with fail
  refine HI.out.mono ?_
  rintro e w5 ⟨v, rfl, ⟨va, vc, rfl, hrow, _⟩, hn⟩
  have HFd := Lib.hid (find15_any s.L n va vc w5 hrow (by have := HO.out.len; omega))
  have N5 := Lib.hid hn
  clear hn hrow HI
  go_wp2_with fail
  refine HFd.out.mono ?_
  rintro e w6 ⟨rfl, hg6⟩
  have N6 := Lib.hid (N5.out.up hg6)
  clear hg6 HFd N5
  cases hh : Dk.has s.L n with
  | false =>
    have G6 := Lib.hid (G2.out.trans N6.out.gr)
    generalize Dk.get s.L n = f at *
    obtain ⟨fn, fd, fy⟩ := f
    try simp only at *
    go_wp2_with fail
    refine (HAw.out _).mono ?_
    rintro e w7 ⟨rfl, hg7⟩
    have G7 := Lib.hid (G6.out.alloc.trans hg7)
    clear hg7 HAw
    go_wp2
    go_ret
    exact ⟨rfl, G7.out⟩
  | true =>
    obtain ⟨hm1, hm2⟩ := Dk.get_mem hh
    have hfo := HO.out.fo _ hm1
    have hy1 := hfo.y1
    obtain ⟨y, hy⟩ : ∃ y : Nat, (Dk.get s.L n).y = (y : Int) := ⟨(Dk.get s.L n).y.toNat, by have := hfo.y0; omega⟩
    have hyl : y ≤ (Dk.get s.L n).d.size := by omega
    have HS : Hid (Sf s n ((Dk.get s.L n).d.extract 0 y)) := by
      have hsz : ((Dk.get s.L n).d.extract 0 y).size = y := by simp; omega
      refine Or.inr ⟨_, hm1, hm2, by rw [hsz]; omega, by rw [hsz]⟩
    have HSn : Hid (Sn w2 (w6.alloc (.cells #[.int .i64 (Dk.get s.L n).n, .string (Dk.get s.L n).d, .int .i64 (y : Int)] 40)) b m n ((Dk.get s.L n).d.extract 0 y)) := ⟨s, N6.out.up (Gr.refl _).alloc, HS.out⟩
    clear hfo hm1 hm2 HS N6 HO hh hy1
    generalize Dk.get s.L n = f at *
    obtain ⟨fn, fd, fy⟩ := f
    try simp only at *
    subst hy
    go_wp2
    generalize fd.extract 0 y = safe at *
    go_loopw [11] (fun i wr => ∃ (k : Nat), k ≤ U.length ∧ i = .int .i64 (k : Int) ∧ Sn w2 wr b m n safe) (fun i _ => U.length - (intOf i).toNat)
    case atStart => exact ⟨0, Nat.zero_le _, rfl, HSn.out⟩
    case round =>
      obtain ⟨k, hk, rfl, hn⟩ := hrel
      by_cases hlt : k < U.length
      · have hgr := G2.out.trans hn.gr
        obtain ⟨x, off, hade, hxb, c0, c1, c2, c3, c4⟩ := ac_at HU.out.row k hlt
        have c0 := hgr.keep c0
        have c1 := hgr.keep c1
        have c2 := hgr.keep c2
        have c3 := hgr.keep c3
        have c4 := hgr.keep c4
        have HA := Lib.hid ((HU.out.each _ (List.getElem_mem hlt)).gr hgr)
        have HW := Lib.hid (hn.up ((Gr.refl wr).alloc (o := acC U[k])))
        have HKr := Lib.hid (HA.out.row.gr ((Gr.refl wr).alloc (o := acC U[k])))
        subst hade
        clear hn hgr HSn
        generalize U[k] = z at *
        have z0 : (wr.alloc (acC z)).cell? ⟨wr.heap.size, 0, none⟩ = some (.int .i64 z.k) := by simp
        have z1 : (wr.alloc (acC z)).cell? ⟨wr.heap.size, 1, none⟩ = some (.int .i64 z.n) := by simp
        have z2 : (wr.alloc (acC z)).cell? ⟨wr.heap.size, 2, none⟩ = some (.int .i64 z.z) := by simp
        have z3 : (wr.alloc (acC z)).cell? ⟨wr.heap.size, 3, none⟩ = some (.string z.d) := by simp
        have z4 : (wr.alloc (acC z)).cell? ⟨wr.heap.size, 4, none⟩ = some (.slice z.ka z.K.length z.kc) := by simp
        go_upto_block 2 with fail
        go_cut [12] from 55 to 98 (fun v wx => v = .pointer (some ⟨wr.heap.size, 0, none⟩) ∧ Sn w2 wx b m n safe)
        case first =>
          by_cases p0 : z.k = 0
          · have HC : Hid (Calls Try.prog 18 #[ptr b, .int .i64 z.n, .string z.d] (wr.alloc (acC z)) fun e w' => ∃ v, e = .returned (.int .i64 v) ∧ Sn w2 w' b m n safe) := sn_app HW.out z.n z.d
            clear HA HKr HW
            obtain ⟨zk, zn, zz, zd, za, zc, zK⟩ := z
            simp only at *
            subst p0
            go_wp2_with fail
            refine HC.out.mono ?_
            rintro e w7 ⟨v, rfl, q⟩
            have HQ := Lib.hid q
            clear q HC
            go_wp2_with fail
            go_meet
            exact ⟨rfl, HQ.out⟩
          by_cases p1 : z.k = 1
          · have HC : Hid (Calls Try.prog 19 #[ptr b, .int .i64 z.n] (wr.alloc (acC z)) fun e w' => ∃ v, e = .returned (.int .i64 v) ∧ Sn w2 w' b m n safe) := sn_sync HW.out HA.out.n0 HA.out.n1
            clear HA HKr HW
            obtain ⟨zk, zn, zz, zd, za, zc, zK⟩ := z
            simp only at *
            subst p1
            go_wp2_with fail
            refine HC.out.mono ?_
            rintro e w7 ⟨v, rfl, q⟩
            have HQ := Lib.hid q
            clear q HC
            go_wp2_with fail
            go_meet
            exact ⟨rfl, HQ.out⟩
          by_cases p2 : z.k = 2
          · by_cases hzn : z.n = n
            · have HQ : Hid (Sn w2 (wr.alloc (acC z)) b m n safe) := HW.out
              clear HA HKr HW
              obtain ⟨zk, zn, zz, zd, za, zc, zK⟩ := z
              simp only at *
              subst p2
              subst hzn
              go_wp2_with fail
              go_meet
              exact ⟨rfl, HQ.out⟩
            · have HC : Hid (Calls Try.prog 21 #[ptr b, .int .i64 z.n] (wr.alloc (acC z)) fun e w' => ∃ v, e = .returned (.int .i64 v) ∧ Sn w2 w' b m n safe) := sn_remove HW.out HA.out.n0 HA.out.n1 hzn
              have hznb : (z.n == n) = false := by simpa using hzn
              clear HA HKr HW
              obtain ⟨zk, zn, zz, zd, za, zc, zK⟩ := z
              simp only at *
              subst p2
              go_wp2_with fail
              refine HC.out.mono ?_
              rintro e w7 ⟨v, rfl, q⟩
              have HQ := Lib.hid q
              clear q HC
              go_wp2_with fail
              go_meet
              exact ⟨rfl, HQ.out⟩
          by_cases p3 : z.k = 3
          · by_cases hzn : z.n = n
            · have HQ : Hid (Sn w2 (wr.alloc (acC z)) b m n safe) := HW.out
              clear HA HKr HW
              obtain ⟨zk, zn, zz, zd, za, zc, zK⟩ := z
              simp only at *
              subst p3
              subst hzn
              go_wp2_with fail
              go_meet
              exact ⟨rfl, HQ.out⟩
            · have HC : Hid (Calls Try.prog 21 #[ptr b, .int .i64 z.n] (wr.alloc (acC z)) fun e w' => ∃ v, e = .returned (.int .i64 v) ∧ Sn w2 w' b m n safe) := sn_remove HW.out HA.out.n0 HA.out.n1 hzn
              have hznb : (z.n == n) = false := by simpa using hzn
              clear HA HKr HW
              obtain ⟨zk, zn, zz, zd, za, zc, zK⟩ := z
              simp only at *
              subst p3
              go_wp2_with fail
              refine HC.out.mono ?_
              rintro e w7 ⟨v, rfl, q⟩
              have HQ := Lib.hid q
              clear q HC
              go_wp2_with fail
              go_meet
              exact ⟨rfl, HQ.out⟩
          by_cases p4 : z.k = 4
          · have HC : Hid (Calls Try.prog 22 #[ptr b, .int .i64 z.z, .slice z.ka z.K.length z.kc] (wr.alloc (acC z)) fun e w' => ∃ v, e = .returned (.int .i64 v) ∧ Sn w2 w' b m n safe) := sn_arm HW.out HA.out.z1 HKr.out
            clear HA HKr HW
            obtain ⟨zk, zn, zz, zd, za, zc, zK⟩ := z
            simp only at *
            subst p4
            go_wp2_with fail
            refine HC.out.mono ?_
            rintro e w7 ⟨v, rfl, q⟩
            have HQ := Lib.hid q
            clear q HC
            go_wp2_with fail
            go_meet
            exact ⟨rfl, HQ.out⟩
          by_cases p5 : z.k = 5
          · have HC : Hid (Calls Try.prog 23 #[ptr b, .slice z.ka z.K.length z.kc] (wr.alloc (acC z)) fun e w' => ∃ v, e = .returned (.int .i64 v) ∧ Sn w2 w' b m n safe) := sn_crash HW.out HKr.out
            clear HA HKr HW
            obtain ⟨zk, zn, zz, zd, za, zc, zK⟩ := z
            simp only at *
            subst p5
            go_wp2_with fail
            refine HC.out.mono ?_
            rintro e w7 ⟨v, rfl, q⟩
            have HQ := Lib.hid q
            clear q HC
            go_wp2_with fail
            go_meet
            exact ⟨rfl, HQ.out⟩
          have HC : Hid (Calls Try.prog 24 #[ptr b] (wr.alloc (acC z)) fun e w' => ∃ v, e = .returned (.int .i64 v) ∧ Sn w2 w' b m n safe) := sn_boot HW.out
          clear HA HKr HW
          have q0 : (z.k == 0) = false := by simpa using p0
          have q1 : (z.k == 1) = false := by simpa using p1
          have q2 : (z.k == 2) = false := by simpa using p2
          have q3 : (z.k == 3) = false := by simpa using p3
          have q4 : (z.k == 4) = false := by simpa using p4
          have q5 : (z.k == 5) = false := by simpa using p5
          obtain ⟨zk, zn, zz, zd, za, zc, zK⟩ := z
          simp only at *
          go_wp2_with fail
          refine HC.out.mono ?_
          rintro e w7 ⟨v, rfl, q⟩
          have HQ := Lib.hid q
          clear q HC
          go_wp2_with fail
          go_meet
          exact ⟨rfl, HQ.out⟩
        case rest =>
          obtain ⟨wz, rfl⟩ : ∃ x, x = wc := ⟨_, rfl⟩
          obtain ⟨rfl, hq⟩ := hcut
          have HQ := Lib.hid hq
          clear hq z0 z1 z2 z3 z4
          go_wp2_with fail
          refine (sn_image HQ.out).mono ?_
          rintro e w8 ⟨v8, rfl, hi8⟩
          have HI8 := Lib.hid hi8
          clear hi8 HQ
          go_wp2_with fail
          refine (sn_find HI8.out).mono ?_
          rintro e w9 ⟨f9, is9, rfl, hgf, hs9⟩
          have HS9 := Lib.hid hs9
          have HGf := Lib.hid hgf
          clear hs9 HI8 hgf
          obtain ⟨gn, gd, gy⟩ := f9
          by_cases hsz : 0 < safe.size
          · obtain ⟨q1, q2, q3, q4⟩ := HGf.out.ex hsz
            simp only at q2 q3 q4
            subst q1
            have e1 : decide ((0 : Int) < (safe.size : Int)) = true := decide_eq_true (by omega)
            have e2 : decide ((gd.size : Int) < (safe.size : Int)) = false := decide_eq_false (by omega)
            have e3 : decide (gy < (safe.size : Int)) = false := decide_eq_false (by omega)
            have e4 : decide (0 < safe.size) = true := decide_eq_true hsz
            have e5 : decide (gd.size < safe.size) = false := decide_eq_false (by omega)
            clear HGf
            go_wp2
            go_roundw
            case rel => exact ⟨k + 1, by omega, by simp, HS9.out.up (Gr.refl _).alloc⟩
            case measure => simp [intOf]; omega
          · have hs0 : safe.size = 0 := by omega
            clear hsz HGf
            go_wp2
            go_roundw
            case rel => exact ⟨k + 1, by omega, by simp, HS9.out.up (Gr.refl _).alloc⟩
            case measure => simp [intOf]; omega
      · obtain rfl : k = U.length := by omega
        have G7 := Lib.hid (G2.out.trans hn.gr)
        clear hn
        go_wp2_with fail
        refine (HAw.out _).mono ?_
        rintro e w8 ⟨rfl, hg8⟩
        have G8 := Lib.hid (G7.out.trans hg8)
        clear hg8
        go_wp2
        go_ret
        exact ⟨rfl, G8.out⟩
theorem diskSyncs_walk (T U : List Ac) (n : Int) (ad au : Option Addr) (cap cu : Nat) (w : World) (hT : Acts w ad T) (hU : Acts w au U) :
    Calls Try.prog 7 #[.slice ad T.length cap, .slice au U.length cu, .int .i64 n] w fun e w' => e = .returned (.bool true) ∧ Gr w w' := by
  cases h1 : fewB T with
  | false => exact syncs_l1 T U n ad au cap cu w hT hU h1
  | true =>
    cases h2 : fewB U with
    | false => exact syncs_l2 T U n ad au cap cu w hT hU h1 h2
    | true => exact syncs_main T U n ad au cap cu w hT hU h1 h2

set_option maxRecDepth 100000 in
theorem diskSyncs_lifted (os : Os) (started : os.Started) (H : Type) (enc : TypeId × Value → H) :
    ReturnsInHanded {} Try.checked os 7 .any (Rows.diskSyncsSpec.pre6 enc Try.prog Try.f7 Rows.diskSyncsRow.domain false) (Rows.diskSyncsSpec.post enc Try.prog Try.f7 false true false false) := by
  refine returnsInHanded_of_change (C := Try.checked) own2 started (by kernel_rfl) Try.func7
    (ChangeSpec.witness6 (enc := enc) (C := Try.checked) false ⟨#[], #[.slice none 0 0, .slice none 0 0, .int .i64 0], []⟩ 8 (by kernel_rfl) (by kernel_rfl) (by kernel_rfl) (by kernel_rfl)) ?_
  intro W base args ds gs before hval0 hW hcnd _
  have hval : ∀ (j : Nat) t v, Try.f7.params[j]? = some t → args[j]? = some v → Value.okWide Try.prog W .any base t v := hval0
  have hW' := hW
  obtain ⟨p, q, hA0, hV, rfl, hfz, hnd⟩ := hW
  have hA : DataW.TrodAll enc Try.prog W 0 (fun _ => true) true Try.f7.params.toList args.toList ds p := hA0
  rw [Try.params7] at hA hval
  obtain ⟨v0, v1, v2, d0, d1, d2, p0, p1, p2, rfl, rfl, rfl, q0, q1, q2⟩ := trodAll_three hA
  obtain ⟨rfl, rfl⟩ := trodVars_none hV
  have k0 := q0
  have lt0 : ∀ x ∈ p0, x.block < W.heap.size := by obtain ⟨m, hm⟩ := k0; exact DataW.trod_lt m _ _ _ hm
  have k1 := q1
  have lt1 : ∀ x ∈ p1, x.block < W.heap.size := by obtain ⟨m, hm⟩ := k1; exact DataW.trod_lt m _ _ _ hm
  obtain ⟨ad0, cap0, T0, rfl, hT0⟩ := open_kacts (hval 0 22 v0 rfl rfl) q0
  obtain ⟨ad1, cap1, T1, rfl, hT1⟩ := open_kacts (hval 1 22 v1 rfl rfl) q1
  obtain ⟨a2, rfl, rfl, rfl, wa2⟩ := open_int Try.underlying3 (hval 2 3 v2 rfl rfl) q2
  have rg2 := rng_i64 wa2
  clear hA0 hval0
  refine (diskSyncs_walk T0 T1 a2 ad0 ad1 cap0 cap1 W hT0 hT1).mono fun e W' ⟨he, hg⟩ => ?_
  subst he
  exact ⟨_, rfl, _, _, _, [], _, [], hW', trodAll_mk1 (shut_bool Try.underlying4 _), trodAll_mk3 (Below.trod laidOut2 (by kernel_rfl) (of_decide_eq_true (by kernel_rfl)) k0 hg.below lt0) (Below.trod laidOut2 (by kernel_rfl) (of_decide_eq_true (by kernel_rfl)) k1 hg.below lt1) (shut_int Try.underlying3 wa2), rfl, hg.below.frame _, fun h => by cases h⟩

theorem diskSyncs_holds : Rows.DiskSyncsSaid :=
  OpenClaim.holds_of_wide 7 Try.f7 rfl rfl rfl rfl rfl rfl rfl ⟨rfl, rfl, rfl, rfl, rfl⟩ rfl rfl rfl rfl rfl (by kernel_rfl) Try.func7 (by kernel_rfl)
    (of_decide_eq_true (by kernel_rfl)) (by unfold Func.isWrapper; first | (rw [if_pos (by decide +kernel)]; kernel_rfl) | (rw [if_neg (by decide +kernel)]; exact ⟨rfl, rfl⟩))
    (fun os started H enc _ => diskSyncs_lifted os started H enc)
end Go.Proofs.Ytpnlebegenkdkaa
