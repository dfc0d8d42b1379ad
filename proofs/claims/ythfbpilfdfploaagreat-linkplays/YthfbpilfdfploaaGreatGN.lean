/- Parts of these proofs, laid together. -/
import Derived.Test.YthfbpilfdfploaaGreatGM
import Derived.Test.YthfbpilfdfploaaGreatGK
import Derived.Laws.CopyRow
import Derived.OwnWalk
import Derived.Test.YthfbpilfdfploaaGreatGE
namespace Go.Proofs.YthfbpilfdfploaaGreat
open Go.RowKit
open Lk (St)

variable {Z : Nat → Prop}
set_option maxHeartbeats 8000000 in
set_option maxRecDepth 100000 in
theorem kSend_any (g : Nat) (l : St Nx) (now : Int) (Q : List Mn) (adQ : Option Addr) (capQ : Nat) (w : World) (h : PkAt Z w g l) (he : l.ep ≠ 0) (hF : Frs Z w) (hQ : NtsAt Z w adQ Q) (hnQ : Q.length ≤ 9223372036854775807) :
    Calls Tryz.prog 8 #[.pointer (some ⟨g, 0, none⟩), .int .i64 now, .slice adQ Q.length capQ] w fun e w' => e = .returned (.int .i64 (Lk.sendE CX l now (pks Q))) ∧ PkAt Z w' g (Lk.sendS CX l now (pks Q)) ∧ GB g w w' := by
  have HM : Hid (Calls Tryz.prog 23 #[.pointer (some ⟨g, 0, none⟩)] w fun e w2 => e = .returned (.bool true) ∧ w2 = w) := by
    obtain ⟨a, c, E, a2, c2, h⟩ := h
    have := made_any g l.ep w (h.cs.at_ 2 _ rfl)
    rwa [decide_eq_false he] at this
  have HEn : Hid (∀ m ∈ Q, ∀ w', Gr w w' → Calls Tryz.prog 24 #[.pointer (some ⟨g, 0, none⟩), m.v] w' fun e w2 => e = .returned (.bool (Lk.ends CX l (pk m.x))) ∧ Gr w' w2) := fun m hm w' k => carries_any g l m w' (h.gr k) ((hQ.nt m hm).gr k)
  have HP : Hid (∀ w', Gr w w' → Calls Tryz.prog 25 #[.pointer (some ⟨g, 0, none⟩), .int .i64 now, .slice adQ Q.length capQ] w' fun e w2 => e = .returned (.int .i64 (Ox.push okN l.it l.nx now (pks Q)).2) ∧ PkAt Z w2 g (if (Ox.push okN l.it l.nx now (pks Q)).2 = 0 then { l with it := (Ox.push okN l.it l.nx now (pks Q)).1, nx := Ox.next (Ox.push okN l.it l.nx now (pks Q)).1 l.nx } else l) ∧ GB g w' w2) := fun w' k => kPush_any g l now Q adQ capQ w' (h.gr k) (hF.gr k) (hQ.gr k) hnQ
  have HQ := Lib.hid hQ.row
  have HS1 : Hid ((∀ (j : Nat) (hj : j < Q.length), Lk.ends CX l (pk Q[j].x) = true) → (Ox.push okN l.it l.nx now (pks Q)).2 = Lk.sendE CX l now (pks Q) ∧ (if (Ox.push okN l.it l.nx now (pks Q)).2 = 0 then { l with it := (Ox.push okN l.it l.nx now (pks Q)).1, nx := Ox.next (Ox.push okN l.it l.nx now (pks Q)).1 l.nx } else l) = Lk.sendS CX l now (pks Q)) := by
    intro hall
    have e1 : Lk.sendE CX l now (pks Q) = (Ox.push okN l.it l.nx now (pks Q)).2 := by
      unfold Lk.sendE
      rw [if_pos]
      · rfl
      · rw [List.all_eq_true]
        intro p hp
        obtain ⟨m, hm, rfl⟩ := List.mem_map.1 hp
        obtain ⟨j, hj, rfl⟩ := List.getElem_of_mem hm
        exact hall j hj
    refine ⟨e1.symm, ?_⟩
    unfold Lk.sendS
    rw [e1]; rfl
  have HS0 : Hid ((∃ (j : Nat) (hj : j < Q.length), Lk.ends CX l (pk Q[j].x) = false) → Lk.sendE CX l now (pks Q) = 130 ∧ Lk.sendS CX l now (pks Q) = l) := by
    rintro ⟨j, hj, hno⟩
    have e1 : Lk.sendE CX l now (pks Q) = 130 := by
      unfold Lk.sendE
      rw [if_neg]
      intro hall
      rw [List.all_eq_true] at hall
      have := hall (pk Q[j].x) (List.mem_map.2 ⟨_, List.getElem_mem hj, rfl⟩)
      rw [hno] at this; cases this
    refine ⟨e1, ?_⟩
    unfold Lk.sendS
    rw [e1]; rfl
  have HL := Lib.hid h
  generalize Lk.sendE CX l now (pks Q) = S at *
  generalize Lk.sendS CX l now (pks Q) = S' at *
  generalize (if (Ox.push okN l.it l.nx now (pks Q)).2 = 0 then { l with it := (Ox.push okN l.it l.nx now (pks Q)).1, nx := Ox.next (Ox.push okN l.it l.nx now (pks Q)).1 l.nx } else l) = R' at *
  generalize (Ox.push okN l.it l.nx now (pks Q)).2 = R at *
  clear h hQ hF he
  go_enter Tryz.func8, Tryz.ntmps8
  go_wp2_with fail
  refine HM.out.mono ?_
  rintro e1 w1 ⟨rfl, hw1⟩; obtain rfl := hw1.symm
  clear HM
  go_wp2
  go_loopw [14] (fun s14 wr => ∃ j : Nat, s14 = .int .i64 j ∧ j ≤ Q.length ∧ (∀ (i : Nat) (hi : i < Q.length), i < j → Lk.ends CX l (pk Q[i].x) = true) ∧ Gr w wr) (fun s14 _ => Q.length - (intOf s14).toNat)
  case atStart => exact ⟨0, rfl, Nat.zero_le _, fun i _ hi => absurd hi (Nat.not_lt_zero _), Gr.refl _⟩
  case round =>
    obtain ⟨j, rfl, hj, hall, hg⟩ := hrel
    have HG := Lib.hid hg
    have HA := Lib.hid hall
    clear hall
    by_cases hlt : j < Q.length
    · obtain ⟨b, off, rfl, hbl, d0, d1, d2, d3, d4, d5⟩ := NtsRow.at HQ.out j hlt
      have d0 := hg.keep d0
      have d1 := hg.keep d1
      have d2 := hg.keep d2
      have d3 := hg.keep d3
      have d4 := hg.keep d4
      have d5 := hg.keep d5
      have hbw : b < wr.heap.size := Nat.lt_of_lt_of_le hbl hg.size
      have hji : (j : Int) < (Q.length : Int) := by omega
      have hj0 : (0 : Int) ≤ (j : Int) := by omega
      have HX := Lib.hid (HEn.out Q[j] (List.getElem_mem hlt))
      have HN0 : Hid (Lk.ends CX l (pk Q[j].x) = false → S = 130 ∧ S' = l) := fun hno => HS0.out ⟨j, hlt, hno⟩
      have HN1 : Hid (Lk.ends CX l (pk Q[j].x) = true → ∀ (i : Nat) (hi : i < Q.length), i < j + 1 → Lk.ends CX l (pk Q[i].x) = true) := by
        intro hy i hi hij
        by_cases e : i = j
        · subst e; exact hy
        · exact HA.out i hi (by omega)
      clear hg
      generalize Q[j] = m at *
      generalize Lk.ends CX l (pk m.x) = x at *
      obtain ⟨⟨k0', r, n, L, dt, y⟩, ax, cx⟩ := m
      dsimp only [Mn.v] at *
      generalize L.length = ll at *
      have B1 := Cs.new wr [.int .i64 k0', .int .i64 r, .int .i64 n, .slice ax ll cx, .string dt, .int .i64 y] 36 _ rfl
      have z0 := B1.at_ 0 _ rfl
      have z1 := B1.at_ 1 _ rfl
      have z2 := B1.at_ 2 _ rfl
      have z3 := B1.at_ 3 _ rfl
      have z4 := B1.at_ 4 _ rfl
      have z5 := B1.at_ 5 _ rfl
      have zf0 := B1.fz 0 (by simp)
      have zf1 := B1.fz 1 (by simp)
      have zf2 := B1.fz 2 (by simp)
      have zf3 := B1.fz 3 (by simp)
      have zf4 := B1.fz 4 (by simp)
      have zf5 := B1.fz 5 (by simp)
      have zlt := B1.lt
      go_wp2_with fail
      refine wp_region_held_drew (S := (fun w' => Gr wr w' ∧ w'.cell? ⟨wr.heap.size, 0, none⟩ = some (.int .i64 k0') ∧ w'.cell? ⟨wr.heap.size, 1, none⟩ = some (.int .i64 r) ∧ w'.cell? ⟨wr.heap.size, 2, none⟩ = some (.int .i64 n) ∧ w'.cell? ⟨wr.heap.size, 3, none⟩ = some (.slice ax ll cx) ∧ w'.cell? ⟨wr.heap.size, 4, none⟩ = some (.string dt) ∧ w'.cell? ⟨wr.heap.size, 5, none⟩ = some (.int .i64 y))) (by kernel_rfl) (by exact ⟨(by repeat(first|exact Gr.r _|refine Gr.a ?_|refine Gr.d ?_|refine Gr.t ?_ (by assumption))), Gr.keep (by repeat(first|exact Gr.r _|refine Gr.a ?_|refine Gr.d ?_|refine Gr.t ?_ (by assumption))) z0, Gr.keep (by repeat(first|exact Gr.r _|refine Gr.a ?_|refine Gr.d ?_|refine Gr.t ?_ (by assumption))) z1, Gr.keep (by repeat(first|exact Gr.r _|refine Gr.a ?_|refine Gr.d ?_|refine Gr.t ?_ (by assumption))) z2, Gr.keep (by repeat(first|exact Gr.r _|refine Gr.a ?_|refine Gr.d ?_|refine Gr.t ?_ (by assumption))) z3, Gr.keep (by repeat(first|exact Gr.r _|refine Gr.a ?_|refine Gr.d ?_|refine Gr.t ?_ (by assumption))) z4, Gr.keep (by repeat(first|exact Gr.r _|refine Gr.a ?_|refine Gr.d ?_|refine Gr.t ?_ (by assumption))) z5⟩) (fun hHeld => ?_)
      refine ty 0 18 hHeld ?_
      refine ty 1 19 hHeld ?_
      refine ty 2 20 hHeld ?_
      refine ty 3 21 hHeld ?_
      refine wpAnyH_ready (rs := [4]) (by kernel_rfl) (by simp) (AllReadyH.cons rfl (fun K hK => ?_) AllReadyH.nil)
      go_simp
      (go_at_call 24; refine (HX.out _ (HG.out.trans hHeld.1)).mono ?_; rintro e wn ⟨rfl, hgn⟩)
      (try go_wp2_with fail)
      refine hK.out _ _ (by exact ⟨(by repeat(first|exact Gr.r _|refine Gr.a ?_|refine Gr.d ?_|refine Gr.t ?_ (by assumption))), Gr.keep (by repeat(first|exact Gr.r _|refine Gr.a ?_|refine Gr.d ?_|refine Gr.t ?_ (by assumption))) z0, Gr.keep (by repeat(first|exact Gr.r _|refine Gr.a ?_|refine Gr.d ?_|refine Gr.t ?_ (by assumption))) z1, Gr.keep (by repeat(first|exact Gr.r _|refine Gr.a ?_|refine Gr.d ?_|refine Gr.t ?_ (by assumption))) z2, Gr.keep (by repeat(first|exact Gr.r _|refine Gr.a ?_|refine Gr.d ?_|refine Gr.t ?_ (by assumption))) z3, Gr.keep (by repeat(first|exact Gr.r _|refine Gr.a ?_|refine Gr.d ?_|refine Gr.t ?_ (by assumption))) z4, Gr.keep (by repeat(first|exact Gr.r _|refine Gr.a ?_|refine Gr.d ?_|refine Gr.t ?_ (by assumption))) z5⟩) (fun hHeldN => ?_)
      clear hHeld hK K
      have hHeld := hHeldN
      clear hHeldN
      refine ty 5 23 hHeld ?_
      refine wpAnyH_done (by kernel_rfl) ?_ _
      have HG1 := Lib.hid (HG.out.trans hHeld.1)
      clear hHeld z0 z1 z2 z3 z4 z5 zf0 zf1 zf2 zf3 zf4 zf5 zlt B1 d0 d1 d2 d3 d4 d5
      cases x with
      | true =>
        have HN := Lib.hid (HN1.out rfl)
        go_wp2
        go_roundw
        case rel => exact ⟨j + 1, by go_num, by omega, HN.out, HG1.out⟩
        case measure => simp [intOf]; omega
      | false =>
        have HN := Lib.hid (HN0.out rfl)
        go_wp2
        go_ret
        exact ⟨by rw [HN.out.1]; rfl, by rw [HN.out.2]; exact HL.out.gr HG1.out, GB.ofGr HG1.out⟩
    · have hge : ¬ ((j : Int) < (Q.length : Int)) := by omega
      have HSe := Lib.hid (HS1.out (fun i hi => HA.out i hi (by omega)))
      clear hg
      go_wp2_with fail
      refine (HP.out _ HG.out).mono ?_
      rintro e1 w1 ⟨rfl, hp1, hgb⟩
      have H1 := Lib.hid hp1
      have H2 := Lib.hid hgb
      clear hp1 hgb
      go_wp2
      go_ret
      exact ⟨by rw [← HSe.out.1]; rfl, by rw [← HSe.out.2]; exact H1.out, (GB.ofGr HG.out).trans H2.out⟩
end Go.Proofs.YthfbpilfdfploaaGreat
namespace Go.Proofs.YthfbpilfdfploaaGreat
open Go.RowKit
open Lk (St)
open Wn (Wd)

variable {Z : Nat → Prop}
/- copy of hops into a new row -/
theorem run_copy_hops {P : Program} (w : World) (dT sT ty elem : TypeId) (i : TypeInfo) (g c : Nat) (ad : Option Addr) (sc : Nat) (cur : Array Value) (t : TypeId) (L : List (Int × Int)) (hu : P.underlying dT = some (.slice elem)) (hi : P.info? elem = some i) (hs : i.size = 2)
    (hg : w.heap[g]? = some (.cells cur t (0, 0))) (hcur : cur.size = L.length * 2) (hL : HopsAt w ad L) :
    ∃ w', (Builtin.copy_ #[dT, sT] ty #[.slice (some ⟨g, 0, none⟩) L.length c, .slice ad L.length sc]).run P w = .ok (goInt L.length) w' ∧ HopsAt w' (some ⟨g, 0, none⟩) L ∧ GB g w w' := by
  cases L with
  | nil =>
    refine ⟨w, ?_, HopsAt.nil, GB.refl _ _⟩
    cases ad with
    | none => simp [Builtin.copy_, run_underlying hu, Builtin.lenOf, Builtin.firstCells, sizeOf, typeInfo, hi, storeCells]
    | some a => simp [Builtin.copy_, run_underlying hu, Builtin.lenOf, Builtin.firstCells, sizeOf, typeInfo, hi, storeCells, loadCells, loadCellsFrom]
  | cons x l =>
    obtain ⟨b, off, rfl, hb, _⟩ := hL 0 (by simp)
    have hl := run_loadCells_list (P := P) w ⟨b, off, none⟩ (hopV (x :: l)) hL.news
    have hln := hopV_len (x :: l)
    have hst := run_storeCells_at P g 0 t (hopV (x :: l)) 0 cur w hg (by omega) (hopV_one _)
    have hd : cur.toList.drop (hopV (x :: l)).length = [] := List.drop_eq_nil_of_le (by simp; omega)
    simp only [Nat.zero_add, List.take_zero, List.nil_append, hd, List.append_nil] at hst
    refine ⟨w.setRow g (hopV (x :: l)).toArray, ?_, ?_, ?_⟩
    · rw [hln, List.length_cons] at hl
      simp [Builtin.copy_, Builtin.lenOf, Builtin.firstCells, sizeOf, typeInfo, run_underlying hu, hi, hs, hl, hst]
    · have hgl : g < (w.setRow g (hopV (x :: l)).toArray).heap.size := (Array.getElem?_eq_some_iff.1 (setRow_heap w g cur (hopV (x :: l)).toArray t (0, 0) hg)).1
      intro j hj
      have hc := fun k => cell_setRow_same w g k cur (hopV (x :: l)).toArray t (0, 0) hg
      refine ⟨g, 0, rfl, hgl, ?_, ?_⟩
      · rw [Nat.zero_add, hc]
        have := flat_get (f := fun h : Int × Int => [Value.int .i64 h.1, Value.int .i64 h.2]) (c := 2) (fun _ => rfl) (x :: l) j hj 0 (by omega)
        rw [Nat.add_zero] at this
        simpa [hopV] using this
      · rw [Nat.zero_add, hc]
        have := flat_get (f := fun h : Int × Int => [Value.int .i64 h.1, Value.int .i64 h.2]) (c := 2) (fun _ => rfl) (x :: l) j hj 1 (by omega)
        simpa [hopV] using this
    · exact ⟨⟨rfl, rfl, rfl, by simp [World.setRow], fun k hk hne => setRow_other w g k _ (fun e => hne (by rw [e]))⟩⟩
theorem made_row {w : World} {base : Nat} {e : TypeId} {g n : Nat} {xs : List Value} (h : w.ownsRow base e 2 (.slice (some ⟨g, 0, none⟩) n n) n xs) : ∃ cur, w.heap[g]? = some (.cells cur e (0, 0)) ∧ cur.size = n * 2 := by
  obtain ⟨_, ⟨h, _⟩ | ⟨g', cap, cur, h, _, h1, _, _, h2, _⟩⟩ := h
  · cases h
  · cases h; exact ⟨cur, h1, h2⟩
set_option maxHeartbeats 8000000 in
set_option maxRecDepth 100000 in
theorem kCopied_any (m : Mn) (w : World) (hZ : Frs Z w) (h : MnAt Z w m) (hn : m.x.L.length ≤ 1000) (hd : m.x.d.size ≤ 1000) :
    Calls Tryz.prog 55 #[m.v] w fun e w' => CnR Z m w e w' := by
  obtain ⟨⟨k, r, n, L, d, y⟩, ad, cap⟩ := m
  obtain ⟨i0, hi, hz0, hz1, hz2⟩ := info_parts infoHop
  have HS : Hid (∀ w', Calls Tryz.prog 83 #[.string d] w' fun e w2 => e = .returned (.string d) ∧ Gr w' w2) := fun w' => sclone_any d w' (by simp only at hd; omega)
  have HL : Hid (L.length ≤ 9223372036854775807 ∧ d.size ≤ 9223372036854775807) := ⟨h.hl, h.hd⟩
  have HH := Lib.hid h.hp
  clear h
  dsimp only [Mn.v] at *
  have hll : Hid (∀ w' a c, HopsAt w' a L → L.length ≤ c → (∀ p, a = some p → w.heap.size ≤ p.block) → MnAt Z w' ⟨⟨k, r, n, L, d, y⟩, a, c⟩) := fun w' a c h1 h2 h3 => ⟨h1, HL.out.1, h2, HL.out.2, fun _ p e => hZ _ (h3 p e)⟩
  unfold CnR
  dsimp only [Mn.v]
  have hbt : i0.bytes * L.length ≤ 281474976710656 := by rw [hz2]; omega
  have hml : L.length ≤ maxLen := by unfold maxLen; omega
  have B0 := Cs.new w [.int .i64 k, .int .i64 r, .int .i64 n, .slice ad L.length cap, .string d, .int .i64 y] 36 _ rfl
  have D0 := Cs.new (w.alloc (.cells #[.int .i64 k, .int .i64 r, .int .i64 n, .slice ad L.length cap, .string d, .int .i64 y] 36)) [.int .i64 0, .int .i64 0, .int .i64 0, .slice none 0 0, .string ⟨#[]⟩, .int .i64 0] 36 (w.heap.size + 1) (by simp)
  obtain ⟨W2, hW2⟩ : ∃ W2, W2 = (w.alloc (.cells #[.int .i64 k, .int .i64 r, .int .i64 n, .slice ad L.length cap, .string d, .int .i64 y] 36)).alloc (.cells #[.int .i64 0, .int .i64 0, .int .i64 0, .slice none 0 0, .string ⟨#[]⟩, .int .i64 0] 36) := ⟨_, rfl⟩
  have G2 : Hid (Gr w W2) := by show Gr w W2; rw [hW2]; exact (Gr.refl _).alloc.alloc
  have B2 : Cs W2 w.heap.size [.int .i64 k, .int .i64 r, .int .i64 n, .slice ad L.length cap, .string d, .int .i64 y] := by rw [hW2]; exact B0.alloc
  have D2 : Cs W2 (w.heap.size + 1) [.int .i64 0, .int .i64 0, .int .i64 0, .slice none 0 0, .string ⟨#[]⟩, .int .i64 0] := by rw [hW2]; exact D0
  have hs2 : W2.heap.size = w.heap.size + 2 := by rw [hW2]; simp
  subst hW2
  clear B0 D0 hn hd HL
  go_enter Tryz.func55, Tryz.ntmps55
  go_wp2_with (first
    | (refine wpList_make_full _ rfl _ _ 32 rfl w.heap.size 90 i0 (.agg #[.int .i64 0, .int .i64 0]) 2 Tryz.underlying32 hi hz0 hz1 .i64 .i64 (L.length : Int) (L.length : Int) L.length rfl rfl rfl rfl hbt hml (by simp; omega) ?_)
    | fail)
  intro w3 hown hgrow
  obtain ⟨cur, hcur, hcs⟩ := made_row hown
  have hg3 := (Gr.refl _).grown hgrow (fun k e => by cases e)
  have HG3 : Hid (Gr w w3) := G2.out.trans hg3
  obtain ⟨w4, hrun, hh4, hgb4⟩ := run_copy_hops (P := Tryz.prog) w3 32 32 3 90 i0 (w.heap.size + 2) L.length ad cap cur 90 L Tryz.underlying32 hi hz1 hcur hcs (HH.out.gr HG3.out)
  have HB3 := Lib.hid (B2.gr hg3)
  have HD3 := Lib.hid (D2.gr hg3)
  have b3 := HB3.out.at_ 3 _ rfl
  have bl := HB3.out.lt
  have HG4 : Hid (Gr w w4) := HG3.out.gb hgb4 (by omega)
  have hb4 := hgb4.cs HB3.out (by omega)
  have hd4 := hgb4.cs HD3.out (by omega)
  have HB4 := Lib.hid (hb4.set 3 (by simp) (.slice (some ⟨w.heap.size + 2, 0, none⟩) L.length L.length))
  have HD4 := Lib.hid (hd4.far ⟨w.heap.size, 3, none⟩ (.slice (some ⟨w.heap.size + 2, 0, none⟩) L.length L.length) (by simp))
  have HH4 := Lib.hid (hh4.set ⟨w.heap.size, 3, none⟩ (.slice (some ⟨w.heap.size + 2, 0, none⟩) L.length L.length) (fun a e => by cases e; simp))
  have c3 := hb4.at_ 3 _ rfl
  have cf3 := hb4.fz 3 (by simp)
  have cl := hb4.lt
  have c4 := HB4.out.at_ 4 _ rfl
  clear hh4 hgb4 hb4 hd4 HG3 HB3 HD3 hown hgrow hcur hcs hg3 B2 D2 G2 hs2 HH hbt hml hi hz0 hz1 hz2
  go_wp2_with fail
  refine (HS.out _).mono ?_
  rintro e5 w5 ⟨rfl, hg5⟩
  have G5 : Hid (Gr w w5) := (HG4.out.set _ (by simp) _).trans hg5
  have HB5 := Lib.hid (HB4.out.gr hg5)
  have HD5 := Lib.hid (HD4.out.gr hg5)
  have HH5 := Lib.hid (HH4.out.gr hg5)
  have x0 := HB5.out.at_ 0 _ rfl
  have x1 := HB5.out.at_ 1 _ rfl
  have x2 := HB5.out.at_ 2 _ rfl
  have x3 := HB5.out.at_ 3 _ rfl
  have x4 := HB5.out.at_ 4 _ rfl
  have x5 := HB5.out.at_ 5 _ rfl
  have xf0 := HB5.out.fz 0 (by simp)
  have xf1 := HB5.out.fz 1 (by simp)
  have xf2 := HB5.out.fz 2 (by simp)
  have xf3 := HB5.out.fz 3 (by simp)
  have xf4 := HB5.out.fz 4 (by simp)
  have xf5 := HB5.out.fz 5 (by simp)
  have xlt := HB5.out.lt
  have z0 := HD5.out.at_ 0 _ rfl
  have z1 := HD5.out.at_ 1 _ rfl
  have z2 := HD5.out.at_ 2 _ rfl
  have z3 := HD5.out.at_ 3 _ rfl
  have z4 := HD5.out.at_ 4 _ rfl
  have z5 := HD5.out.at_ 5 _ rfl
  have zf0 := HD5.out.fz 0 (by simp)
  have zf1 := HD5.out.fz 1 (by simp)
  have zf2 := HD5.out.fz 2 (by simp)
  have zf3 := HD5.out.fz 3 (by simp)
  have zf4 := HD5.out.fz 4 (by simp)
  have zf5 := HD5.out.fz 5 (by simp)
  have zlt := HD5.out.lt
  have hs5 := G5.out.size
  clear hg5 HB4 HD4 HH4 HG4 c3 cf3 cl c4
  go_wp2
  refine bodyPost_ret (v := .agg #[.int .i64 k, .int .i64 r, .int .i64 n, .slice (some ⟨w.heap.size + 2, 0, none⟩) L.length L.length, .string d, .int .i64 y]) (by simp [results, Tryz.results55, go_sem, *]) rfl ?_
  refine ⟨some ⟨w.heap.size + 2, 0, none⟩, L.length, rfl, ?_, fun p e => by cases e; simp, ?_⟩
  · refine hll.out _ _ _ ?_ (Nat.le_refl _) (fun p e => by cases e; simp)
    repeat' (first | with_reducible exact HH5.out | with_reducible refine HopsAt.set ?_ _ _ ?_)
    all_goals (intro a e; cases e; simp)
  · repeat' (first | with_reducible exact G5.out | with_reducible refine Gr.set ?_ _ ?_ _)
    all_goals (simp; try omega)
end Go.Proofs.YthfbpilfdfploaaGreat
namespace Go.Proofs.YthfbpilfdfploaaGreat
open Go.RowKit

set_option maxHeartbeats 4000000 in
set_option maxRecDepth 100000 in
theorem noteFits_any (fr tx ep sq ae ac k r n : Int) (L : List (Int × Int)) (d : ByteArray) (y : Int) (ad : Option Addr) (cap : Nat) (w : World) (hL : HopsAt w ad L) (hn : L.length ≤ 9223372036854775807) (hd : d.size ≤ 9223372036854775807) (hc : L.length ≤ cap) :
    Calls Tryz.prog 74 #[.agg #[.int .i64 fr, .int .i64 tx, .int .i64 ep, .int .i64 sq, .int .i64 ae, .int .i64 ac, .int .i64 k, .int .i64 r, .int .i64 n, .slice ad L.length cap, .string d, .int .i64 y]] w fun e w' => e = .returned (.bool (Nt.fnB ⟨fr, tx, ep, sq, ae, ac, ⟨k, r, n, L, d, y⟩⟩)) ∧ Gr w w' := by
  have H0 : Hid (∀ w', Calls Tryz.prog 101 #[.agg #[.int .i64 k, .int .i64 r, .int .i64 n, .slice ad L.length cap, .string d, .int .i64 y]] w' fun e w2 => e = .returned (.bool (Nt.emB ⟨k, r, n, L, d, y⟩)) ∧ Gr w' w2) := fun w' => isEmpty_any k r n L d y ad cap w'
  have H1 : Hid (∀ w', Gr w w' → Calls Tryz.prog 44 #[.agg #[.int .i64 k, .int .i64 r, .int .i64 n, .slice ad L.length cap, .string d, .int .i64 y]] w' fun e w2 => e = .returned (.tuple #[.int .i64 (Nt.ends1 ⟨k, r, n, L, d, y⟩), .int .i64 (Nt.ends2 ⟨k, r, n, L, d, y⟩)]) ∧ Gr w' w2) := fun w' g => nEnds_any k r n L d y ad cap w' (hL.gr g) hn hd hc
  have H2 : Hid (∀ w', Gr w w' → Calls Tryz.prog 63 #[.agg #[.int .i64 k, .int .i64 r, .int .i64 n, .slice ad L.length cap, .string d, .int .i64 y]] w' fun e w2 => e = .returned (.int .i64 (if Nt.ntB ⟨k, r, n, L, d, y⟩ = true then 0 else 130)) ∧ Gr w' w2) := fun w' g => nCheck_any k r n L d y ad cap w' (hL.gr g) hn hd
  have HE : Hid (Nt.fnB ⟨fr, tx, ep, sq, ae, ac, ⟨k, r, n, L, d, y⟩⟩ = if sq = 0 then Nt.emB ⟨k, r, n, L, d, y⟩ else (Nt.ntB ⟨k, r, n, L, d, y⟩ && decide (Nt.ends1 ⟨k, r, n, L, d, y⟩ = fr) && decide (Nt.ends2 ⟨k, r, n, L, d, y⟩ = tx))) := rfl
  generalize Nt.fnB ⟨fr, tx, ep, sq, ae, ac, ⟨k, r, n, L, d, y⟩⟩ = R at *
  generalize Nt.emB ⟨k, r, n, L, d, y⟩ = em at *
  generalize Nt.ends1 ⟨k, r, n, L, d, y⟩ = E1 at *
  generalize Nt.ends2 ⟨k, r, n, L, d, y⟩ = E2 at *
  generalize Nt.ntB ⟨k, r, n, L, d, y⟩ = bn at *
  clear hL hn hd hc
  by_cases hs : sq = 0
  · rw [if_pos hs] at HE
    subst hs
    go_enter Tryz.func74, Tryz.ntmps74
    go_wp2_with fail
    refine (H0.out _).mono ?_
    rintro e1 w1 ⟨rfl, hg1⟩
    go_wp2
    go_ret
    exact ⟨by rw [HE.out]; rfl, (by repeat(first|exact Gr.r _|refine Gr.a ?_|refine Gr.d ?_|refine Gr.t ?_ (by assumption)))⟩
  · rw [if_neg hs] at HE
    have hs' : (sq == 0) = false := by simpa using hs
    cases bn with
    | false =>
      rw [show (if false = true then (0 : Int) else 130) = 130 from rfl] at H2
      rw [Bool.false_and, Bool.false_and] at HE
      go_enter Tryz.func74, Tryz.ntmps74
      go_wp2_with fail
      refine (H1.out _ ?_).mono ?_
      · exact (by repeat(first|exact Gr.r _|refine Gr.a ?_|refine Gr.d ?_|refine Gr.t ?_ (by assumption)))
      rintro e1 w1 ⟨rfl, hg1⟩
      have B1 := (Cs.new w [.int .i64 fr, .int .i64 tx, .int .i64 ep, .int .i64 sq, .int .i64 ae, .int .i64 ac, .int .i64 k, .int .i64 r, .int .i64 n, .slice ad L.length cap, .string d, .int .i64 y] 38 _ rfl).gr hg1
      have c0 := B1.at_ 0 _ rfl
      have c1 := B1.at_ 1 _ rfl
      have c2 := B1.at_ 2 _ rfl
      have c3 := B1.at_ 3 _ rfl
      have c4 := B1.at_ 4 _ rfl
      have c5 := B1.at_ 5 _ rfl
      have c6 := B1.at_ 6 _ rfl
      have c7 := B1.at_ 7 _ rfl
      have c8 := B1.at_ 8 _ rfl
      have c9 := B1.at_ 9 _ rfl
      have c10 := B1.at_ 10 _ rfl
      have c11 := B1.at_ 11 _ rfl
      have clt := B1.lt
      go_wp2_with fail
      refine (H2.out _ ?_).mono ?_
      · exact (by repeat(first|exact Gr.r _|refine Gr.a ?_|refine Gr.d ?_|refine Gr.t ?_ (by assumption)))
      rintro e2 w2 ⟨rfl, hg2⟩
      have B2 := B1.gr hg2
      have c0 := B2.at_ 0 _ rfl
      have c1 := B2.at_ 1 _ rfl
      have c2 := B2.at_ 2 _ rfl
      have c3 := B2.at_ 3 _ rfl
      have c4 := B2.at_ 4 _ rfl
      have c5 := B2.at_ 5 _ rfl
      have c6 := B2.at_ 6 _ rfl
      have c7 := B2.at_ 7 _ rfl
      have c8 := B2.at_ 8 _ rfl
      have c9 := B2.at_ 9 _ rfl
      have c10 := B2.at_ 10 _ rfl
      have c11 := B2.at_ 11 _ rfl
      have clt := B2.lt
      go_wp2
      go_ret
      exact ⟨by rw [HE.out]; rfl, (by repeat(first|exact Gr.r _|refine Gr.a ?_|refine Gr.d ?_|refine Gr.t ?_ (by assumption)))⟩
    | true =>
      rw [show (if true = true then (0 : Int) else 130) = 0 from rfl] at H2
      rw [Bool.true_and] at HE
      by_cases h1 : E1 = fr
      · subst h1
        rw [decide_eq_true rfl, Bool.true_and] at HE
        have hd2 : (E2 == tx) = decide (E2 = tx) := rfl
        rw [← hd2] at HE
        clear hd2
        go_enter Tryz.func74, Tryz.ntmps74
        go_wp2_with fail
        refine (H1.out _ ?_).mono ?_
        · exact (by repeat(first|exact Gr.r _|refine Gr.a ?_|refine Gr.d ?_|refine Gr.t ?_ (by assumption)))
        rintro e1 w1 ⟨rfl, hg1⟩
        have B1 := (Cs.new w [.int .i64 E1, .int .i64 tx, .int .i64 ep, .int .i64 sq, .int .i64 ae, .int .i64 ac, .int .i64 k, .int .i64 r, .int .i64 n, .slice ad L.length cap, .string d, .int .i64 y] 38 _ rfl).gr hg1
        have c0 := B1.at_ 0 _ rfl
        have c1 := B1.at_ 1 _ rfl
        have c2 := B1.at_ 2 _ rfl
        have c3 := B1.at_ 3 _ rfl
        have c4 := B1.at_ 4 _ rfl
        have c5 := B1.at_ 5 _ rfl
        have c6 := B1.at_ 6 _ rfl
        have c7 := B1.at_ 7 _ rfl
        have c8 := B1.at_ 8 _ rfl
        have c9 := B1.at_ 9 _ rfl
        have c10 := B1.at_ 10 _ rfl
        have c11 := B1.at_ 11 _ rfl
        have clt := B1.lt
        go_wp2_with fail
        refine (H2.out _ ?_).mono ?_
        · exact (by repeat(first|exact Gr.r _|refine Gr.a ?_|refine Gr.d ?_|refine Gr.t ?_ (by assumption)))
        rintro e2 w2 ⟨rfl, hg2⟩
        have B2 := B1.gr hg2
        have c0 := B2.at_ 0 _ rfl
        have c1 := B2.at_ 1 _ rfl
        have c2 := B2.at_ 2 _ rfl
        have c3 := B2.at_ 3 _ rfl
        have c4 := B2.at_ 4 _ rfl
        have c5 := B2.at_ 5 _ rfl
        have c6 := B2.at_ 6 _ rfl
        have c7 := B2.at_ 7 _ rfl
        have c8 := B2.at_ 8 _ rfl
        have c9 := B2.at_ 9 _ rfl
        have c10 := B2.at_ 10 _ rfl
        have c11 := B2.at_ 11 _ rfl
        have clt := B2.lt
        go_wp2
        go_ret
        exact ⟨by rw [HE.out]; rfl, (by repeat(first|exact Gr.r _|refine Gr.a ?_|refine Gr.d ?_|refine Gr.t ?_ (by assumption)))⟩
      · rw [decide_eq_false h1, Bool.false_and] at HE
        have h1b : (E1 == fr) = false := by simpa using h1
        go_enter Tryz.func74, Tryz.ntmps74
        go_wp2_with fail
        refine (H1.out _ ?_).mono ?_
        · exact (by repeat(first|exact Gr.r _|refine Gr.a ?_|refine Gr.d ?_|refine Gr.t ?_ (by assumption)))
        rintro e1 w1 ⟨rfl, hg1⟩
        have B1 := (Cs.new w [.int .i64 fr, .int .i64 tx, .int .i64 ep, .int .i64 sq, .int .i64 ae, .int .i64 ac, .int .i64 k, .int .i64 r, .int .i64 n, .slice ad L.length cap, .string d, .int .i64 y] 38 _ rfl).gr hg1
        have c0 := B1.at_ 0 _ rfl
        have c1 := B1.at_ 1 _ rfl
        have c2 := B1.at_ 2 _ rfl
        have c3 := B1.at_ 3 _ rfl
        have c4 := B1.at_ 4 _ rfl
        have c5 := B1.at_ 5 _ rfl
        have c6 := B1.at_ 6 _ rfl
        have c7 := B1.at_ 7 _ rfl
        have c8 := B1.at_ 8 _ rfl
        have c9 := B1.at_ 9 _ rfl
        have c10 := B1.at_ 10 _ rfl
        have c11 := B1.at_ 11 _ rfl
        have clt := B1.lt
        go_wp2_with fail
        refine (H2.out _ ?_).mono ?_
        · exact (by repeat(first|exact Gr.r _|refine Gr.a ?_|refine Gr.d ?_|refine Gr.t ?_ (by assumption)))
        rintro e2 w2 ⟨rfl, hg2⟩
        have B2 := B1.gr hg2
        have c0 := B2.at_ 0 _ rfl
        have c1 := B2.at_ 1 _ rfl
        have c2 := B2.at_ 2 _ rfl
        have c3 := B2.at_ 3 _ rfl
        have c4 := B2.at_ 4 _ rfl
        have c5 := B2.at_ 5 _ rfl
        have c6 := B2.at_ 6 _ rfl
        have c7 := B2.at_ 7 _ rfl
        have c8 := B2.at_ 8 _ rfl
        have c9 := B2.at_ 9 _ rfl
        have c10 := B2.at_ 10 _ rfl
        have c11 := B2.at_ 11 _ rfl
        have clt := B2.lt
        go_wp2
        go_ret
        exact ⟨by rw [HE.out]; rfl, (by repeat(first|exact Gr.r _|refine Gr.a ?_|refine Gr.d ?_|refine Gr.t ?_ (by assumption)))⟩

theorem fr_parts (fr tx ep sq ae ac k r n : Int) (L : List (Int × Int)) (d : ByteArray) (y : Int) : Nt.frE ⟨fr, tx, ep, sq, ae, ac, ⟨k, r, n, L, d, y⟩⟩ = if (Nt.inB fr 0 15 && Nt.inB tx 0 15 && decide (fr ≠ tx) && Nt.cnB ⟨fr, tx, ep, sq, ae, ac, ⟨k, r, n, L, d, y⟩⟩ && Nt.fnB ⟨fr, tx, ep, sq, ae, ac, ⟨k, r, n, L, d, y⟩⟩) = true then 0 else 130 := rfl

set_option maxHeartbeats 4000000 in
set_option maxRecDepth 100000 in
theorem nFrame_any (fr tx ep sq ae ac k r n : Int) (L : List (Int × Int)) (d : ByteArray) (y : Int) (ad : Option Addr) (cap : Nat) (w : World) (hL : HopsAt w ad L) (hn : L.length ≤ 9223372036854775807) (hd : d.size ≤ 9223372036854775807) (hc : L.length ≤ cap) :
    Calls Tryz.prog 51 #[.agg #[.int .i64 fr, .int .i64 tx, .int .i64 ep, .int .i64 sq, .int .i64 ae, .int .i64 ac, .int .i64 k, .int .i64 r, .int .i64 n, .slice ad L.length cap, .string d, .int .i64 y]] w fun e w' => e = .returned (.int .i64 (Nt.frE ⟨fr, tx, ep, sq, ae, ac, ⟨k, r, n, L, d, y⟩⟩)) ∧ Gr w w' := by
  have H0 : Hid (∀ w', Gr w w' → Calls Tryz.prog 72 #[.int .i64 fr] w' fun e w2 => e = .returned (.bool (Nt.inB fr 0 15)) ∧ Gr w' w2) := fun w' _ => (isOrg_any fr w').mono (by rintro e w2 ⟨rfl, rfl⟩; exact ⟨rfl, Gr.refl _⟩)
  have H1 : Hid (∀ w', Gr w w' → Calls Tryz.prog 72 #[.int .i64 tx] w' fun e w2 => e = .returned (.bool (Nt.inB tx 0 15)) ∧ Gr w' w2) := fun w' _ => (isOrg_any tx w').mono (by rintro e w2 ⟨rfl, rfl⟩; exact ⟨rfl, Gr.refl _⟩)
  have H2 : Hid (∀ w', Gr w w' → Calls Tryz.prog 73 #[.agg #[.int .i64 fr, .int .i64 tx, .int .i64 ep, .int .i64 sq, .int .i64 ae, .int .i64 ac, .int .i64 k, .int .i64 r, .int .i64 n, .slice ad L.length cap, .string d, .int .i64 y]] w' fun e w2 => e = .returned (.bool (Nt.cnB ⟨fr, tx, ep, sq, ae, ac, ⟨k, r, n, L, d, y⟩⟩)) ∧ Gr w' w2) := fun w' _ => countsFit_any fr tx ep sq ae ac k r n L d y ad cap w'
  have H3 : Hid (∀ w', Gr w w' → Calls Tryz.prog 74 #[.agg #[.int .i64 fr, .int .i64 tx, .int .i64 ep, .int .i64 sq, .int .i64 ae, .int .i64 ac, .int .i64 k, .int .i64 r, .int .i64 n, .slice ad L.length cap, .string d, .int .i64 y]] w' fun e w2 => e = .returned (.bool (Nt.fnB ⟨fr, tx, ep, sq, ae, ac, ⟨k, r, n, L, d, y⟩⟩)) ∧ Gr w' w2) := fun w' g => noteFits_any fr tx ep sq ae ac k r n L d y ad cap w' (hL.gr g) hn hd hc
  have HE : Hid (Nt.frE ⟨fr, tx, ep, sq, ae, ac, ⟨k, r, n, L, d, y⟩⟩ = _) := fr_parts fr tx ep sq ae ac k r n L d y
  generalize Nt.frE ⟨fr, tx, ep, sq, ae, ac, ⟨k, r, n, L, d, y⟩⟩ = R at *
  generalize Nt.cnB ⟨fr, tx, ep, sq, ae, ac, ⟨k, r, n, L, d, y⟩⟩ = b2 at *
  generalize Nt.fnB ⟨fr, tx, ep, sq, ae, ac, ⟨k, r, n, L, d, y⟩⟩ = b3 at *
  generalize Nt.inB fr 0 15 = b0 at *
  generalize Nt.inB tx 0 15 = b1 at *
  clear hL hn hd hc
  cases b0 with
  | false =>
    simp only [Bool.false_and] at HE
    go_enter Tryz.func51, Tryz.ntmps51
    go_wp2_with fail
    refine (H0.out _ ?_).mono ?_
    · exact (by repeat(first|exact Gr.r _|refine Gr.a ?_|refine Gr.d ?_|refine Gr.t ?_ (by assumption)))
    rintro e0 w0 ⟨rfl, hg0⟩
    have B0 := (Cs.new w [.int .i64 fr, .int .i64 tx, .int .i64 ep, .int .i64 sq, .int .i64 ae, .int .i64 ac, .int .i64 k, .int .i64 r, .int .i64 n, .slice ad L.length cap, .string d, .int .i64 y] 38 _ rfl).gr hg0
    have c0 := B0.at_ 0 _ rfl
    have c1 := B0.at_ 1 _ rfl
    have c2 := B0.at_ 2 _ rfl
    have c3 := B0.at_ 3 _ rfl
    have c4 := B0.at_ 4 _ rfl
    have c5 := B0.at_ 5 _ rfl
    have c6 := B0.at_ 6 _ rfl
    have c7 := B0.at_ 7 _ rfl
    have c8 := B0.at_ 8 _ rfl
    have c9 := B0.at_ 9 _ rfl
    have c10 := B0.at_ 10 _ rfl
    have c11 := B0.at_ 11 _ rfl
    have clt := B0.lt
    go_wp2
    go_ret
    exact ⟨by rw [HE.out]; rfl, (by repeat(first|exact Gr.r _|refine Gr.a ?_|refine Gr.d ?_|refine Gr.t ?_ (by assumption)))⟩
  | true =>
    cases b1 with
    | false =>
      simp only [Bool.false_and, Bool.and_false] at HE
      go_enter Tryz.func51, Tryz.ntmps51
      go_wp2_with fail
      refine (H0.out _ ?_).mono ?_
      · exact (by repeat(first|exact Gr.r _|refine Gr.a ?_|refine Gr.d ?_|refine Gr.t ?_ (by assumption)))
      rintro e0 w0 ⟨rfl, hg0⟩
      have B0 := (Cs.new w [.int .i64 fr, .int .i64 tx, .int .i64 ep, .int .i64 sq, .int .i64 ae, .int .i64 ac, .int .i64 k, .int .i64 r, .int .i64 n, .slice ad L.length cap, .string d, .int .i64 y] 38 _ rfl).gr hg0
      have c0 := B0.at_ 0 _ rfl
      have c1 := B0.at_ 1 _ rfl
      have c2 := B0.at_ 2 _ rfl
      have c3 := B0.at_ 3 _ rfl
      have c4 := B0.at_ 4 _ rfl
      have c5 := B0.at_ 5 _ rfl
      have c6 := B0.at_ 6 _ rfl
      have c7 := B0.at_ 7 _ rfl
      have c8 := B0.at_ 8 _ rfl
      have c9 := B0.at_ 9 _ rfl
      have c10 := B0.at_ 10 _ rfl
      have c11 := B0.at_ 11 _ rfl
      have clt := B0.lt
      go_wp2_with fail
      refine (H1.out _ ?_).mono ?_
      · exact (by repeat(first|exact Gr.r _|refine Gr.a ?_|refine Gr.d ?_|refine Gr.t ?_ (by assumption)))
      rintro e1 w1 ⟨rfl, hg1⟩
      have B1 := B0.gr hg1
      have c0 := B1.at_ 0 _ rfl
      have c1 := B1.at_ 1 _ rfl
      have c2 := B1.at_ 2 _ rfl
      have c3 := B1.at_ 3 _ rfl
      have c4 := B1.at_ 4 _ rfl
      have c5 := B1.at_ 5 _ rfl
      have c6 := B1.at_ 6 _ rfl
      have c7 := B1.at_ 7 _ rfl
      have c8 := B1.at_ 8 _ rfl
      have c9 := B1.at_ 9 _ rfl
      have c10 := B1.at_ 10 _ rfl
      have c11 := B1.at_ 11 _ rfl
      have clt := B1.lt
      go_wp2
      go_ret
      exact ⟨by rw [HE.out]; rfl, (by repeat(first|exact Gr.r _|refine Gr.a ?_|refine Gr.d ?_|refine Gr.t ?_ (by assumption)))⟩
    | true =>
      by_cases hq : fr = tx
      · subst hq
        simp only [ne_eq, not_true_eq_false, decide_false, Bool.and_false, Bool.false_and] at HE
        go_enter Tryz.func51, Tryz.ntmps51
        go_wp2_with fail
        refine (H0.out _ ?_).mono ?_
        · exact (by repeat(first|exact Gr.r _|refine Gr.a ?_|refine Gr.d ?_|refine Gr.t ?_ (by assumption)))
        rintro e0 w0 ⟨rfl, hg0⟩
        have B0 := (Cs.new w [.int .i64 fr, .int .i64 fr, .int .i64 ep, .int .i64 sq, .int .i64 ae, .int .i64 ac, .int .i64 k, .int .i64 r, .int .i64 n, .slice ad L.length cap, .string d, .int .i64 y] 38 _ rfl).gr hg0
        have c0 := B0.at_ 0 _ rfl
        have c1 := B0.at_ 1 _ rfl
        have c2 := B0.at_ 2 _ rfl
        have c3 := B0.at_ 3 _ rfl
        have c4 := B0.at_ 4 _ rfl
        have c5 := B0.at_ 5 _ rfl
        have c6 := B0.at_ 6 _ rfl
        have c7 := B0.at_ 7 _ rfl
        have c8 := B0.at_ 8 _ rfl
        have c9 := B0.at_ 9 _ rfl
        have c10 := B0.at_ 10 _ rfl
        have c11 := B0.at_ 11 _ rfl
        have clt := B0.lt
        go_wp2_with fail
        refine (H1.out _ ?_).mono ?_
        · exact (by repeat(first|exact Gr.r _|refine Gr.a ?_|refine Gr.d ?_|refine Gr.t ?_ (by assumption)))
        rintro e1 w1 ⟨rfl, hg1⟩
        have B1 := B0.gr hg1
        have c0 := B1.at_ 0 _ rfl
        have c1 := B1.at_ 1 _ rfl
        have c2 := B1.at_ 2 _ rfl
        have c3 := B1.at_ 3 _ rfl
        have c4 := B1.at_ 4 _ rfl
        have c5 := B1.at_ 5 _ rfl
        have c6 := B1.at_ 6 _ rfl
        have c7 := B1.at_ 7 _ rfl
        have c8 := B1.at_ 8 _ rfl
        have c9 := B1.at_ 9 _ rfl
        have c10 := B1.at_ 10 _ rfl
        have c11 := B1.at_ 11 _ rfl
        have clt := B1.lt
        go_wp2
        go_ret
        exact ⟨by rw [HE.out]; rfl, (by repeat(first|exact Gr.r _|refine Gr.a ?_|refine Gr.d ?_|refine Gr.t ?_ (by assumption)))⟩
      · have hq2 : (fr == tx) = false := by simpa using hq
        rw [decide_eq_true (show fr ≠ tx from hq)] at HE
        clear hq
        cases b2 with
        | false =>
          simp only [Bool.false_and, Bool.and_false] at HE
          go_enter Tryz.func51, Tryz.ntmps51
          go_wp2_with fail
          refine (H0.out _ ?_).mono ?_
          · exact (by repeat(first|exact Gr.r _|refine Gr.a ?_|refine Gr.d ?_|refine Gr.t ?_ (by assumption)))
          rintro e0 w0 ⟨rfl, hg0⟩
          have B0 := (Cs.new w [.int .i64 fr, .int .i64 tx, .int .i64 ep, .int .i64 sq, .int .i64 ae, .int .i64 ac, .int .i64 k, .int .i64 r, .int .i64 n, .slice ad L.length cap, .string d, .int .i64 y] 38 _ rfl).gr hg0
          have c0 := B0.at_ 0 _ rfl
          have c1 := B0.at_ 1 _ rfl
          have c2 := B0.at_ 2 _ rfl
          have c3 := B0.at_ 3 _ rfl
          have c4 := B0.at_ 4 _ rfl
          have c5 := B0.at_ 5 _ rfl
          have c6 := B0.at_ 6 _ rfl
          have c7 := B0.at_ 7 _ rfl
          have c8 := B0.at_ 8 _ rfl
          have c9 := B0.at_ 9 _ rfl
          have c10 := B0.at_ 10 _ rfl
          have c11 := B0.at_ 11 _ rfl
          have clt := B0.lt
          go_wp2_with fail
          refine (H1.out _ ?_).mono ?_
          · exact (by repeat(first|exact Gr.r _|refine Gr.a ?_|refine Gr.d ?_|refine Gr.t ?_ (by assumption)))
          rintro e1 w1 ⟨rfl, hg1⟩
          have B1 := B0.gr hg1
          have c0 := B1.at_ 0 _ rfl
          have c1 := B1.at_ 1 _ rfl
          have c2 := B1.at_ 2 _ rfl
          have c3 := B1.at_ 3 _ rfl
          have c4 := B1.at_ 4 _ rfl
          have c5 := B1.at_ 5 _ rfl
          have c6 := B1.at_ 6 _ rfl
          have c7 := B1.at_ 7 _ rfl
          have c8 := B1.at_ 8 _ rfl
          have c9 := B1.at_ 9 _ rfl
          have c10 := B1.at_ 10 _ rfl
          have c11 := B1.at_ 11 _ rfl
          have clt := B1.lt
          go_wp2_with fail
          refine (H2.out _ ?_).mono ?_
          · exact (by repeat(first|exact Gr.r _|refine Gr.a ?_|refine Gr.d ?_|refine Gr.t ?_ (by assumption)))
          rintro e2 w2 ⟨rfl, hg2⟩
          have B2 := B1.gr hg2
          have c0 := B2.at_ 0 _ rfl
          have c1 := B2.at_ 1 _ rfl
          have c2 := B2.at_ 2 _ rfl
          have c3 := B2.at_ 3 _ rfl
          have c4 := B2.at_ 4 _ rfl
          have c5 := B2.at_ 5 _ rfl
          have c6 := B2.at_ 6 _ rfl
          have c7 := B2.at_ 7 _ rfl
          have c8 := B2.at_ 8 _ rfl
          have c9 := B2.at_ 9 _ rfl
          have c10 := B2.at_ 10 _ rfl
          have c11 := B2.at_ 11 _ rfl
          have clt := B2.lt
          go_wp2
          go_ret
          exact ⟨by rw [HE.out]; rfl, (by repeat(first|exact Gr.r _|refine Gr.a ?_|refine Gr.d ?_|refine Gr.t ?_ (by assumption)))⟩
        | true =>
          cases b3 with
          | false =>
            simp only [Bool.and_false] at HE
            go_enter Tryz.func51, Tryz.ntmps51
            go_wp2_with fail
            refine (H0.out _ ?_).mono ?_
            · exact (by repeat(first|exact Gr.r _|refine Gr.a ?_|refine Gr.d ?_|refine Gr.t ?_ (by assumption)))
            rintro e0 w0 ⟨rfl, hg0⟩
            have B0 := (Cs.new w [.int .i64 fr, .int .i64 tx, .int .i64 ep, .int .i64 sq, .int .i64 ae, .int .i64 ac, .int .i64 k, .int .i64 r, .int .i64 n, .slice ad L.length cap, .string d, .int .i64 y] 38 _ rfl).gr hg0
            have c0 := B0.at_ 0 _ rfl
            have c1 := B0.at_ 1 _ rfl
            have c2 := B0.at_ 2 _ rfl
            have c3 := B0.at_ 3 _ rfl
            have c4 := B0.at_ 4 _ rfl
            have c5 := B0.at_ 5 _ rfl
            have c6 := B0.at_ 6 _ rfl
            have c7 := B0.at_ 7 _ rfl
            have c8 := B0.at_ 8 _ rfl
            have c9 := B0.at_ 9 _ rfl
            have c10 := B0.at_ 10 _ rfl
            have c11 := B0.at_ 11 _ rfl
            have clt := B0.lt
            go_wp2_with fail
            refine (H1.out _ ?_).mono ?_
            · exact (by repeat(first|exact Gr.r _|refine Gr.a ?_|refine Gr.d ?_|refine Gr.t ?_ (by assumption)))
            rintro e1 w1 ⟨rfl, hg1⟩
            have B1 := B0.gr hg1
            have c0 := B1.at_ 0 _ rfl
            have c1 := B1.at_ 1 _ rfl
            have c2 := B1.at_ 2 _ rfl
            have c3 := B1.at_ 3 _ rfl
            have c4 := B1.at_ 4 _ rfl
            have c5 := B1.at_ 5 _ rfl
            have c6 := B1.at_ 6 _ rfl
            have c7 := B1.at_ 7 _ rfl
            have c8 := B1.at_ 8 _ rfl
            have c9 := B1.at_ 9 _ rfl
            have c10 := B1.at_ 10 _ rfl
            have c11 := B1.at_ 11 _ rfl
            have clt := B1.lt
            go_wp2_with fail
            refine (H2.out _ ?_).mono ?_
            · exact (by repeat(first|exact Gr.r _|refine Gr.a ?_|refine Gr.d ?_|refine Gr.t ?_ (by assumption)))
            rintro e2 w2 ⟨rfl, hg2⟩
            have B2 := B1.gr hg2
            have c0 := B2.at_ 0 _ rfl
            have c1 := B2.at_ 1 _ rfl
            have c2 := B2.at_ 2 _ rfl
            have c3 := B2.at_ 3 _ rfl
            have c4 := B2.at_ 4 _ rfl
            have c5 := B2.at_ 5 _ rfl
            have c6 := B2.at_ 6 _ rfl
            have c7 := B2.at_ 7 _ rfl
            have c8 := B2.at_ 8 _ rfl
            have c9 := B2.at_ 9 _ rfl
            have c10 := B2.at_ 10 _ rfl
            have c11 := B2.at_ 11 _ rfl
            have clt := B2.lt
            go_wp2_with fail
            refine (H3.out _ ?_).mono ?_
            · exact (by repeat(first|exact Gr.r _|refine Gr.a ?_|refine Gr.d ?_|refine Gr.t ?_ (by assumption)))
            rintro e3 w3 ⟨rfl, hg3⟩
            have B3 := B2.gr hg3
            have c0 := B3.at_ 0 _ rfl
            have c1 := B3.at_ 1 _ rfl
            have c2 := B3.at_ 2 _ rfl
            have c3 := B3.at_ 3 _ rfl
            have c4 := B3.at_ 4 _ rfl
            have c5 := B3.at_ 5 _ rfl
            have c6 := B3.at_ 6 _ rfl
            have c7 := B3.at_ 7 _ rfl
            have c8 := B3.at_ 8 _ rfl
            have c9 := B3.at_ 9 _ rfl
            have c10 := B3.at_ 10 _ rfl
            have c11 := B3.at_ 11 _ rfl
            have clt := B3.lt
            go_wp2
            go_ret
            exact ⟨by rw [HE.out]; rfl, (by repeat(first|exact Gr.r _|refine Gr.a ?_|refine Gr.d ?_|refine Gr.t ?_ (by assumption)))⟩
          | true =>
            simp only [Bool.and_self] at HE
            go_enter Tryz.func51, Tryz.ntmps51
            go_wp2_with fail
            refine (H0.out _ ?_).mono ?_
            · exact (by repeat(first|exact Gr.r _|refine Gr.a ?_|refine Gr.d ?_|refine Gr.t ?_ (by assumption)))
            rintro e0 w0 ⟨rfl, hg0⟩
            have B0 := (Cs.new w [.int .i64 fr, .int .i64 tx, .int .i64 ep, .int .i64 sq, .int .i64 ae, .int .i64 ac, .int .i64 k, .int .i64 r, .int .i64 n, .slice ad L.length cap, .string d, .int .i64 y] 38 _ rfl).gr hg0
            have c0 := B0.at_ 0 _ rfl
            have c1 := B0.at_ 1 _ rfl
            have c2 := B0.at_ 2 _ rfl
            have c3 := B0.at_ 3 _ rfl
            have c4 := B0.at_ 4 _ rfl
            have c5 := B0.at_ 5 _ rfl
            have c6 := B0.at_ 6 _ rfl
            have c7 := B0.at_ 7 _ rfl
            have c8 := B0.at_ 8 _ rfl
            have c9 := B0.at_ 9 _ rfl
            have c10 := B0.at_ 10 _ rfl
            have c11 := B0.at_ 11 _ rfl
            have clt := B0.lt
            go_wp2_with fail
            refine (H1.out _ ?_).mono ?_
            · exact (by repeat(first|exact Gr.r _|refine Gr.a ?_|refine Gr.d ?_|refine Gr.t ?_ (by assumption)))
            rintro e1 w1 ⟨rfl, hg1⟩
            have B1 := B0.gr hg1
            have c0 := B1.at_ 0 _ rfl
            have c1 := B1.at_ 1 _ rfl
            have c2 := B1.at_ 2 _ rfl
            have c3 := B1.at_ 3 _ rfl
            have c4 := B1.at_ 4 _ rfl
            have c5 := B1.at_ 5 _ rfl
            have c6 := B1.at_ 6 _ rfl
            have c7 := B1.at_ 7 _ rfl
            have c8 := B1.at_ 8 _ rfl
            have c9 := B1.at_ 9 _ rfl
            have c10 := B1.at_ 10 _ rfl
            have c11 := B1.at_ 11 _ rfl
            have clt := B1.lt
            go_wp2_with fail
            refine (H2.out _ ?_).mono ?_
            · exact (by repeat(first|exact Gr.r _|refine Gr.a ?_|refine Gr.d ?_|refine Gr.t ?_ (by assumption)))
            rintro e2 w2 ⟨rfl, hg2⟩
            have B2 := B1.gr hg2
            have c0 := B2.at_ 0 _ rfl
            have c1 := B2.at_ 1 _ rfl
            have c2 := B2.at_ 2 _ rfl
            have c3 := B2.at_ 3 _ rfl
            have c4 := B2.at_ 4 _ rfl
            have c5 := B2.at_ 5 _ rfl
            have c6 := B2.at_ 6 _ rfl
            have c7 := B2.at_ 7 _ rfl
            have c8 := B2.at_ 8 _ rfl
            have c9 := B2.at_ 9 _ rfl
            have c10 := B2.at_ 10 _ rfl
            have c11 := B2.at_ 11 _ rfl
            have clt := B2.lt
            go_wp2_with fail
            refine (H3.out _ ?_).mono ?_
            · exact (by repeat(first|exact Gr.r _|refine Gr.a ?_|refine Gr.d ?_|refine Gr.t ?_ (by assumption)))
            rintro e3 w3 ⟨rfl, hg3⟩
            have B3 := B2.gr hg3
            have c0 := B3.at_ 0 _ rfl
            have c1 := B3.at_ 1 _ rfl
            have c2 := B3.at_ 2 _ rfl
            have c3 := B3.at_ 3 _ rfl
            have c4 := B3.at_ 4 _ rfl
            have c5 := B3.at_ 5 _ rfl
            have c6 := B3.at_ 6 _ rfl
            have c7 := B3.at_ 7 _ rfl
            have c8 := B3.at_ 8 _ rfl
            have c9 := B3.at_ 9 _ rfl
            have c10 := B3.at_ 10 _ rfl
            have c11 := B3.at_ 11 _ rfl
            have clt := B3.lt
            go_wp2
            go_ret
            exact ⟨by rw [HE.out]; rfl, (by repeat(first|exact Gr.r _|refine Gr.a ?_|refine Gr.d ?_|refine Gr.t ?_ (by assumption)))⟩
end Go.Proofs.YthfbpilfdfploaaGreat
namespace Go.Proofs.YthfbpilfdfploaaGreat
open Go.RowKit
open Lk (St)
open Wn (Wd)

variable {Z : Nat → Prop}
theorem zero_mn (w : World) : MnAt Z w (⟨Nt.zeroN, none, 0⟩ : Mn) := ⟨fun j hj => absurd hj (by simp [Nt.zeroN]), by simp [Nt.zeroN], by simp [Nt.zeroN], by decide, fun hn => absurd rfl hn⟩
/- what takeNote and Take answer -/
def TnR (Z : Nat → Prop) (g : Nat) (x : Nt) (r : Int × Bool × St Nx) (w : World) (e : Ending) (w' : World) : Prop :=
  ∃ a c, e = .returned (.tuple #[Mn.v ⟨if r.2.1 = true then x else Nt.zeroN, a, c⟩, .bool r.2.1, .int .i64 r.1]) ∧ MnAt Z w' ⟨if r.2.1 = true then x else Nt.zeroN, a, c⟩ ∧ PkAt Z w' g r.2.2 ∧ GB g w w'
theorem TnR.no {g : Nat} {x : Nt} {c : Int} {l : St Nx} {w w' : World} (h : PkAt Z w' g l) (hg : GB g w w') : TnR Z g x (c, false, l) w (.returned (.tuple #[.agg #[.int .i64 0, .int .i64 0, .int .i64 0, .slice none 0 0, .string ⟨#[]⟩, .int .i64 0], .bool false, .int .i64 c])) w' :=
  ⟨none, 0, rfl, zero_mn _, h, hg⟩
def lay1 (l : St Nx) (q : Int) : Int × Bool × St Nx :=
  if (Wn.take l.wn q).2.2 = 0 then (0, (Wn.take l.wn q).2.1, { l with wn := (Wn.take l.wn q).1 }) else ((Wn.take l.wn q).2.2, false, l)
theorem lay1_lay (l : St Nx) (q : Int) (h : l.ow = true) : lay1 l q = Lk.lay l q := by
  obtain ⟨me, wi, ep, kn, it, nx, wn, ow⟩ := l
  dsimp only at h
  subst h
  rfl
set_option maxHeartbeats 8000000 in
set_option maxRecDepth 100000 in
theorem kTakeNote_any (g : Nat) (l : St Nx) (q : Int) (m : Mn) (w : World) (h : PkAt Z w g l) (hF : Frs Z w) (hm : MnAt Z w m) (hn : m.x.L.length ≤ 1000) (hd : m.x.d.size ≤ 1000) :
    Calls Tryz.prog 31 #[.pointer (some ⟨g, 0, none⟩), .int .i64 q, m.v] w fun e w' => TnR Z g m.x (lay1 l q) w e w' := by
  have hgl := h.lt
  have hzg := h.nz
  have HZ : Hid (¬ Z g) := hzg
  have HY := Lib.hid (h.turn (Y := Bt Z (w.heap.size + 1)) (fun b hb hz => ⟨hz, by omega⟩) (fun k => hzg k.1))
  have HMy := Lib.hid (hm.turn (Y := Bt Z (w.heap.size + 1)) (fun b hb hz => ⟨hz, by omega⟩))
  have hFw := Lib.hid hF
  have HC : Hid (∀ w', MnAt (Bt Z (w.heap.size + 1)) w' m → Frs (Bt Z (w.heap.size + 1)) w' → Calls Tryz.prog 55 #[m.v] w' fun e w2 => CnR (Bt Z (w.heap.size + 1)) m w' e w2) := fun w' h1 h2 => kCopied_any m w' h2 h1 hn hd
  obtain ⟨a, c, E, a2, c2, h⟩ := h
  have HP : Hid (∀ w', Gr w w' → Calls Tryz.prog 54 #[wdV l.wn.low a2 l.wn.seen.length c2, .int .i64 q] w' fun e w2 => TkR w' w2 e (Wn.take l.wn q)) := fun w' k => take_any l.wn q a2 c2 w' (h.rw.wd.gr k)
  have HR : Hid (lay1 l q = if (Wn.take l.wn q).2.2 = 0 then (0, (Wn.take l.wn q).2.1, { l with wn := (Wn.take l.wn q).1 }) else ((Wn.take l.wn q).2.2, false, l)) := rfl
  have k6 := h.cs.at_ 6 _ rfl
  have k7 := h.cs.at_ 7 _ rfl
  generalize lay1 l q = LR at *
  generalize Wn.take l.wn q = R at *
  generalize l.wn.low = lo at *
  generalize l.wn.seen.length = ls at *
  unfold CnR at HC
  unfold TkR at HP
  clear h hF hm hn hd hzg
  obtain ⟨⟨k0, r, n, L, d, y⟩, ad2, cap2⟩ := m
  dsimp only [Mn.v] at *
  have B0 := Cs.new w [.int .i64 k0, .int .i64 r, .int .i64 n, .slice ad2 L.length cap2, .string d, .int .i64 y] 36 _ rfl
  have D0 := Cs.new (w.alloc (.cells #[.int .i64 k0, .int .i64 r, .int .i64 n, .slice ad2 L.length cap2, .string d, .int .i64 y] 36)) [.int .i64 0, .int .i64 0, .int .i64 0, .slice none 0 0, .string ⟨#[]⟩, .int .i64 0] 36 (w.heap.size + 1) (by simp)
  obtain ⟨W2, hW2⟩ : ∃ W2, W2 = (w.alloc (.cells #[.int .i64 k0, .int .i64 r, .int .i64 n, .slice ad2 L.length cap2, .string d, .int .i64 y] 36)).alloc (.cells #[.int .i64 0, .int .i64 0, .int .i64 0, .slice none 0 0, .string ⟨#[]⟩, .int .i64 0] 36) := ⟨_, rfl⟩
  have G2 : Hid (Gr w W2) := by show Gr w W2; rw [hW2]; exact (Gr.refl _).alloc.alloc
  have B2 : Cs W2 w.heap.size [.int .i64 k0, .int .i64 r, .int .i64 n, .slice ad2 L.length cap2, .string d, .int .i64 y] := by rw [hW2]; exact B0.alloc
  have D2 : Cs W2 (w.heap.size + 1) [.int .i64 0, .int .i64 0, .int .i64 0, .slice none 0 0, .string ⟨#[]⟩, .int .i64 0] := by rw [hW2]; exact D0
  have HB2 := Lib.hid B2
  have HD2 := Lib.hid D2
  have hs2 : W2.heap.size = w.heap.size + 2 := by rw [hW2]; simp
  have HF2 : Hid (Frs (Bt Z (w.heap.size + 1)) W2) := Bt.frs hFw.out G2.out.size (by omega)
  subst hW2
  clear B0 D0 B2 D2
  go_enter Tryz.func31, Tryz.ntmps31
  go_wp2_with fail
  refine (HP.out _ G2.out).mono ?_
  rintro e3 w3 ⟨b, c3, rfl, hw3, hb3, hg3⟩
  have HG3 : Hid (Gr w w3) := G2.out.trans hg3
  have HBn : Hid (R.1.seen ≠ [] → ∀ p, b = some p → Bt Z (w.heap.size + 1) p.block) := fun _ p e => HF2.out _ (by have := (hb3 p e).1; simpa using this)
  have hg4 : Gr w (w3.alloc (.cells #[.int .i64 R.1.low, .slice b R.1.seen.length c3] 56)) := HG3.out.alloc
  have hx4 := Cs.new w3 [.int .i64 R.1.low, .slice b R.1.seen.length c3] 56 _ rfl
  have hlt3 : w.heap.size + 2 ≤ w3.heap.size := by have := hg3.size; simpa using this
  obtain ⟨W4, hW4⟩ : ∃ W4, W4 = w3.alloc (.cells #[.int .i64 R.1.low, .slice b R.1.seen.length c3] 56) := ⟨_, rfl⟩
  rw [← hW4] at hg4 hx4
  have HG4 := Lib.hid hg4
  have g34 : Gr w3 W4 := by rw [hW4]; exact (Gr.refl _).alloc
  have HB4 := Lib.hid ((HB2.out.gr hg3).gr g34)
  have HD4 := Lib.hid ((HD2.out.gr hg3).gr g34)
  have HWd4 := Lib.hid (hw3.gr g34)
  have HL4 := Lib.hid (HY.out.gr HG4.out)
  have HM4 := Lib.hid (HMy.out.gr HG4.out)
  have HF4 := Lib.hid ((HF2.out.gr hg3).gr g34)
  have HX4 := Lib.hid hx4
  clear hw3 hb3 hg3 hg4 hx4 g34 HG3 HB2 HD2 G2 k6 k7 HP hs2 HF2
  by_cases hz : R.2.2 = 0
  · have hzb2 : (R.2.2 != 0) = false := by simp [hz]
    have HLR : Hid (LR = (0, R.2.1, { l with wn := R.1 })) := by show _ = _; rw [HR.out, if_pos hz]
    obtain ⟨pa, pc, pE, pa2, pc2, hpk⟩ := HL4.out
    have HK5 := Lib.hid (hpk.window HWd4.out HBn.out)
    have p6 := hpk.cs.at_ 6 _ rfl
    have pf6 := hpk.cs.fz 6 (by simp)
    have p7 := hpk.cs.at_ 7 _ rfl
    have pf7 := hpk.cs.fz 7 (by simp)
    have pl := hpk.cs.lt
    have x0 := HX4.out.at_ 0 _ rfl
    have x1 := HX4.out.at_ 1 _ rfl
    have hgb5 := ((GB.ofGr HG4.out).trans (gb_set g 6 W4 (.int .i64 R.1.low))).trans (gb_set g 7 _ (.slice b R.1.seen.length c3))
    have HGB5 := Lib.hid hgb5
    have hb5 := (HB4.out.far ⟨g, 6, none⟩ (.int .i64 R.1.low) (by simp; omega)).far ⟨g, 7, none⟩ (.slice b R.1.seen.length c3) (by simp; omega)
    have hd5 := (HD4.out.far ⟨g, 6, none⟩ (.int .i64 R.1.low) (by simp; omega)).far ⟨g, 7, none⟩ (.slice b R.1.seen.length c3) (by simp; omega)
    have HD5 := Lib.hid hd5
    have HM5 := Lib.hid ((HM4.out.gb (gb_set g 6 W4 (.int .i64 R.1.low)) (fun k => HZ.out k.1)).gb (gb_set g 7 _ (.slice b R.1.seen.length c3)) (fun k => HZ.out k.1))
    have HF5 := Lib.hid ((HF4.out.gb (gb_set g 6 W4 (.int .i64 R.1.low))).gb (gb_set g 7 _ (.slice b R.1.seen.length c3)))
    clear hpk hz hgb5
    cases hfr : R.2.1 with
    | false =>
      have z0 := HD5.out.at_ 0 _ rfl
      have z1 := HD5.out.at_ 1 _ rfl
      have z2 := HD5.out.at_ 2 _ rfl
      have z3 := HD5.out.at_ 3 _ rfl
      have z4 := HD5.out.at_ 4 _ rfl
      have z5 := HD5.out.at_ 5 _ rfl
      have zf0 := HD5.out.fz 0 (by simp)
      have zf1 := HD5.out.fz 1 (by simp)
      have zf2 := HD5.out.fz 2 (by simp)
      have zf3 := HD5.out.fz 3 (by simp)
      have zf4 := HD5.out.fz 4 (by simp)
      have zf5 := HD5.out.fz 5 (by simp)
      have zlt := HD5.out.lt
      clear hb5 hd5
      subst hW4
      go_wp2
      refine bodyPost_ret (v := .tuple #[.agg #[.int .i64 0, .int .i64 0, .int .i64 0, .slice none 0 0, .string ⟨#[]⟩, .int .i64 0], .bool false, .int .i64 0]) (by simp [results, Tryz.results31, go_sem, *]) rfl ?_
      rw [HLR.out, hfr]
      refine TnR.no ?_ (HGB5.out.set6 _ (by omega) _ _ _ _ _ _)
      have hp : PkAt _ _ g _ := ⟨_, _, _, _, _, HK5.out⟩
      exact (hp.gb (gb_set6 _ _ _ _ _ _ _ _) Bt.no (by omega)).turn (fun b _ k => k.1) HZ.out
    | true =>
      have z0 := hb5.at_ 0 _ rfl
      have z1 := hb5.at_ 1 _ rfl
      have z2 := hb5.at_ 2 _ rfl
      have z3 := hb5.at_ 3 _ rfl
      have z4 := hb5.at_ 4 _ rfl
      have z5 := hb5.at_ 5 _ rfl
      have zf0 := hb5.fz 0 (by simp)
      have zf1 := hb5.fz 1 (by simp)
      have zf2 := hb5.fz 2 (by simp)
      have zf3 := hb5.fz 3 (by simp)
      have zf4 := hb5.fz 4 (by simp)
      have zf5 := hb5.fz 5 (by simp)
      have zlt := hb5.lt
      have HFr := Lib.hid hfr
      have HCn := Lib.hid (HC.out _ HM5.out HF5.out)
      clear hb5 hd5
      subst hW4
      go_wp2_with fail
      refine HCn.out.mono ?_
      rintro e6 w6 ⟨a6, c6, rfl, hm6, _, hg6⟩
      have hd6 := HD5.out.gr hg6
      have HM6 := Lib.hid hm6
      have HK6 : Hid (PkAt (Bt Z (w.heap.size + 1)) w6 g { l with wn := R.1 }) := (show PkAt _ _ g _ from ⟨_, _, _, _, _, HK5.out⟩).gr hg6
      have HGB6 := Lib.hid (HGB5.out.gr hg6)
      have y0 := hd6.at_ 0 _ rfl
      have y1 := hd6.at_ 1 _ rfl
      have y2 := hd6.at_ 2 _ rfl
      have y3 := hd6.at_ 3 _ rfl
      have y4 := hd6.at_ 4 _ rfl
      have y5 := hd6.at_ 5 _ rfl
      have yf0 := hd6.fz 0 (by simp)
      have yf1 := hd6.fz 1 (by simp)
      have yf2 := hd6.fz 2 (by simp)
      have yf3 := hd6.fz 3 (by simp)
      have yf4 := hd6.fz 4 (by simp)
      have yf5 := hd6.fz 5 (by simp)
      have ylt := hd6.lt
      clear hm6 hg6 hd6 z0 z1 z2 z3 z4 z5 zf0 zf1 zf2 zf3 zf4 zf5 zlt
      go_wp2
      refine bodyPost_ret (v := .tuple #[.agg #[.int .i64 k0, .int .i64 r, .int .i64 n, .slice a6 L.length c6, .string d, .int .i64 y], .bool true, .int .i64 0]) (by simp [results, Tryz.results31, go_sem, *]) rfl ?_
      rw [HLR.out, HFr.out]
      refine ⟨a6, c6, rfl, ?_, ?_, HGB6.out.set6 _ (by omega) _ _ _ _ _ _⟩
      · exact (HM6.out.gb (gb_set6 _ _ _ _ _ _ _ _) Bt.no).turn (fun b _ k => k.1)
      · exact (HK6.out.gb (gb_set6 _ _ _ _ _ _ _ _) Bt.no (by omega)).turn (fun b _ k => k.1) HZ.out
  · have hzb2 : (R.2.2 != 0) = true := bne_iff_ne.2 hz
    have HLR : Hid (LR = (R.2.2, false, l)) := by show _ = _; rw [HR.out, if_neg hz]
    have z0 := HD4.out.at_ 0 _ rfl
    have z1 := HD4.out.at_ 1 _ rfl
    have z2 := HD4.out.at_ 2 _ rfl
    have z3 := HD4.out.at_ 3 _ rfl
    have z4 := HD4.out.at_ 4 _ rfl
    have z5 := HD4.out.at_ 5 _ rfl
    have zf0 := HD4.out.fz 0 (by simp)
    have zf1 := HD4.out.fz 1 (by simp)
    have zf2 := HD4.out.fz 2 (by simp)
    have zf3 := HD4.out.fz 3 (by simp)
    have zf4 := HD4.out.fz 4 (by simp)
    have zf5 := HD4.out.fz 5 (by simp)
    have zlt := HD4.out.lt
    subst hW4
    clear hz
    go_wp2
    refine bodyPost_ret (v := .tuple #[.agg #[.int .i64 0, .int .i64 0, .int .i64 0, .slice none 0 0, .string ⟨#[]⟩, .int .i64 0], .bool false, .int .i64 R.2.2]) (by simp [results, Tryz.results31, go_sem, *]) rfl ?_
    rw [HLR.out]
    refine TnR.no ?_ ((GB.ofGr HG4.out).set6 _ (by omega) _ _ _ _ _ _)
    exact (HL4.out.gb (gb_set6 _ _ _ _ _ _ _ _) Bt.no (by omega)).turn (fun b _ k => k.1) HZ.out
end Go.Proofs.YthfbpilfdfploaaGreat
