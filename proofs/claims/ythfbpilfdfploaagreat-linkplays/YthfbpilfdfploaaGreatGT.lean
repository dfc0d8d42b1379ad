/- Parts of these proofs, laid together. -/
import Derived.Test.YthfbpilfdfploaaGreatGK
import Derived.Test.YthfbpilfdfploaaGreatGE
namespace Go.Proofs.YthfbpilfdfploaaGreat
open Go.RowKit

variable {Z : Nat → Prop}
/- another row turns -/
theorem Bxs.other {w w' : World} {base : Nat} {v : Value} {D : List Mi} {r : Option Nat} (h : Bxs Z w base v D) (g : w.grownBy w' r) (h1 : v.ownBlock = none ∨ v.ownBlock ≠ r) (h2 : ∀ x ∈ D, x.m.x.L ≠ [] → ∀ a, x.m.ad = some a → r ≠ some a.block) : Bxs Z w' base v D :=
  ⟨h.own.kept g h1, fun x hx => ⟨hops_kept (h.nt x hx).hp g (h2 x hx), (h.nt x hx).hl, (h.nt x hx).hc, (h.nt x hx).hd, (h.nt x hx).hz⟩, h.ap⟩
theorem Cs.grown {w w' : World} {g : Nat} {vs : List Value} {r : Option Nat} (h : Cs w g vs) (k : w.grownBy w' r) (hr : r ≠ some g) : Cs w' g vs :=
  ⟨fun i v e => (World.cell?_of_block (a := ⟨g, i, none⟩) (k.block g h.lt (fun e => hr e.symm))).trans (h.at_ i v e), fun i hi => (World.frozen?_of_block (a := ⟨g, i, none⟩) (k.block g h.lt (fun e => hr e.symm))).trans (h.fz i hi), Nat.lt_of_lt_of_le h.lt k.size⟩
theorem map_take_succ {z : Int} {D : List Mi} {k : Nat} (h : k < D.length) : (D.take (k + 1)).map (tkM z) = (D.take k).map (tkM z) ++ [tkM z D[k]] := by
  rw [List.take_succ_eq_append_getElem h, List.map_append]; rfl
theorem filt_take_succ {z : Int} {D : List Mi} {k : Nat} (h : k < D.length) : ((D.take (k + 1)).filter fun x => decide (x.d ≤ z)).map (tkM z) = ((D.take k).filter fun x => decide (x.d ≤ z)).map (tkM z) ++ (if D[k].d ≤ z then [tkM z D[k]] else []) := by
  rw [List.take_succ_eq_append_getElem h, List.filter_append, List.map_append]
  by_cases e : D[k].d ≤ z
  · rw [if_pos e, List.filter_cons, if_pos (by simpa using e)]; rfl
  · rw [if_neg e, List.filter_cons, if_neg (by simpa using e)]; rfl
theorem mem_tk {z : Int} {D : List Mi} {y : Mi} (h : y ∈ D.map (tkM z)) : ∃ x ∈ D, y.m = x.m := by
  obtain ⟨x, hx, rfl⟩ := List.mem_map.1 h
  refine ⟨x, hx, ?_⟩
  unfold tkM
  split <;> rfl
set_option maxHeartbeats 16000000 in
set_option maxRecDepth 100000 in
theorem rDue_any (D : List Mi) (now : Int) (ad : Option Addr) (cap : Nat) (w : World) (hD : ItsAt Z w ad D) (hc : D.length ≤ cap) (hn : D.length ≤ 9223372036854775807) :
    Calls Tryz.prog 41 #[.slice ad D.length cap, .int .i64 now] w fun e w' => DuR Z (Ox.dueL okN (its D) now) (Ox.dueD okN (its D) now) w e w' := by
  obtain ⟨i0, hi0, hz0, hz1, hz2⟩ := info_parts infoItem
  have HM : Hid (∀ w', Gr w w' → Calls Tryz.prog 48 #[.slice ad D.length cap] w' fun e w2 => e = .returned (.int .i64 (oMayE D)) ∧ Gr w' w2) := fun w' g => rMay_any D ad cap w' (hD.gr g) hc hn
  have HT : Hid (∀ w', Calls Tryz.prog 49 #[.int .i64 now] w' fun e w2 => e = .returned (.bool (Ox.tmB now)) ∧ w2 = w') := fun w' => rTime_any now w'
  cases hm : Ox.mayB okN (its D) with
  | false =>
    have HF : Hid (Ox.dueL okN (its D) now = its [] ∧ Ox.dueD okN (its D) now = its []) := by
      constructor
      · unfold Ox.dueL; rw [hm]; rfl
      · unfold Ox.dueD; rw [hm]; rfl
    rw [oMayE_bad hm] at HM
    clear hm hD
    go_enter Tryz.func41, Tryz.ntmps41
    go_wp2_with fail
    refine (HM.out _ ?_).mono ?_
    · exact (by repeat(first|exact Gr.r _|refine Gr.a ?_|refine Gr.d ?_|refine Gr.t ?_ (by assumption)))
    rintro e1 w1 ⟨rfl, hg1⟩
    go_wp2
    go_ret2
    exact ⟨none, 0, [], none, 0, [], rfl, Bxs.nil _ _, Bxs.nil _ _, HF.out.1.symm, HF.out.2.symm, (by repeat(first|exact Gr.r _|refine Gr.a ?_|refine Gr.d ?_|refine Gr.t ?_ (by assumption)))⟩
  | true =>
    rw [oMayE_ok hm] at HM
    cases ht : Ox.tmB now with
    | false =>
      have HF : Hid (Ox.dueL okN (its D) now = its [] ∧ Ox.dueD okN (its D) now = its []) := by
        constructor
        · unfold Ox.dueL; rw [hm, ht]; rfl
        · unfold Ox.dueD; rw [hm, ht]; rfl
      rw [ht] at HT
      clear hm hD ht
      go_enter Tryz.func41, Tryz.ntmps41
      go_wp2_with fail
      refine (HM.out _ ?_).mono ?_
      · exact (by repeat(first|exact Gr.r _|refine Gr.a ?_|refine Gr.d ?_|refine Gr.t ?_ (by assumption)))
      rintro e1 w1 ⟨rfl, hg1⟩
      go_wp2_with fail
      refine (HT.out _).mono ?_
      rintro e2 w2 ⟨rfl, hw2⟩; obtain rfl := hw2.symm
      go_wp2
      go_ret2
      exact ⟨none, 0, [], none, 0, [], rfl, Bxs.nil _ _, Bxs.nil _ _, HF.out.1.symm, HF.out.2.symm, (by repeat(first|exact Gr.r _|refine Gr.a ?_|refine Gr.d ?_|refine Gr.t ?_ (by assumption)))⟩
    | true =>
      obtain ⟨htn0, htn1⟩ := of_decide_eq_true ht
      have HF1 : Hid (Ox.dueL okN (its D) now = its (D.map (tkM now))) := by show _ = _; unfold Ox.dueL; rw [if_pos ⟨hm, ht⟩, its_tk]
      have HF2 : Hid (Ox.dueD okN (its D) now = its ((D.filter fun x => decide (x.d ≤ now)).map (tkM now))) := by
        show _ = _
        unfold Ox.dueD
        rw [if_pos ⟨hm, ht⟩, its_tk]
        exact congrArg _ (its_filt D (fun y => decide (y.d ≤ now))).symm
      rw [ht] at HT
      have hl12 := mayB_len hm
      have HRg : Hid (∀ x ∈ D, 0 ≤ x.s ∧ x.s ≤ 1000000) := fun x hx => (may_one hm x.it (List.mem_map.2 ⟨x, hx, rfl⟩)).2.2.2
      have HDe : Hid (∀ n w', Calls Tryz.prog 60 #[.int .i64 n] w' fun e w2 => e = .returned (.int .i64 (Ox.del n)) ∧ w2 = w') := fun n w' => refDelay_any n w'
      have HD := Lib.hid hD.row
      have HN := Lib.hid hD.nt
      clear hD hm ht
      go_enter Tryz.func41, Tryz.ntmps41
      go_wp2_with fail
      refine (HM.out _ ?_).mono ?_
      · exact (by repeat(first|exact Gr.r _|refine Gr.a ?_|refine Gr.d ?_|refine Gr.t ?_ (by assumption)))
      rintro e1 w1 ⟨rfl, hg1⟩
      have HG1 : Hid (Gr w w1) := (by repeat(first|exact Gr.r _|refine Gr.a ?_|refine Gr.d ?_|refine Gr.t ?_ (by assumption)))
      clear hg1 HM
      go_wp2_with fail
      refine (HT.out _).mono ?_
      rintro e2 w2 ⟨rfl, hw2⟩; obtain rfl := hw2.symm
      go_wp2
      go_loopw [6, 7, 8] (fun s6 s7 s8 wr => ∃ (k : Nat) (a : Option Addr) (c : Nat) (E : List Mi) (b : Option Addr) (d : Nat) (F : List Mi), s8 = .int .i64 k ∧ s6 = .slice a E.length c ∧ s7 = .slice b F.length d ∧ k ≤ D.length ∧ E.length ≤ k ∧ F.length ≤ k ∧ E = (D.take k).map (tkM now) ∧ F = ((D.take k).filter fun x => decide (x.d ≤ now)).map (tkM now) ∧ Bxs Z wr w.heap.size (.slice a E.length c) E ∧ Bxs Z wr w.heap.size (.slice b F.length d) F ∧ (∀ g, (Value.slice a E.length c).ownBlock = some g → (Value.slice b F.length d).ownBlock ≠ some g) ∧ Gr w wr) (fun _ _ s8 _ => D.length - (intOf s8).toNat)
      case atStart => exact ⟨0, none, 0, [], none, 0, [], rfl, rfl, rfl, Nat.zero_le _, Nat.le_refl _, Nat.le_refl _, rfl, rfl, Bxs.nil _ _, Bxs.nil _ _, (by intro g e; cases e), HG1.out⟩
      case round =>
        clear HG1
        obtain ⟨k, a, c, E, b0, d0', F, rfl, rfl, rfl, hk, hEk, hFk, hE, hF, hbE, hbF, hap, hg⟩ := hrel
        have HG := Lib.hid hg
        have HBE := Lib.hid hbE
        have HBF := Lib.hid hbF
        have HEe := Lib.hid hE
        have HFe := Lib.hid hF
        have HAp := Lib.hid hap
        have HEk := Lib.hid hEk
        have HFk := Lib.hid hFk
        have hEb : E.length ≤ 1000 := by omega
        have hFb : F.length ≤ 1000 := by omega
        have HOldE : Hid (∀ y ∈ E, y.m.x.L ≠ [] → ∀ p, y.m.ad = some p → p.block < w.heap.size) := by
          intro y hy hne p e
          rw [HEe.out] at hy
          obtain ⟨x, hx, em⟩ := mem_tk hy
          rw [em] at hne e
          exact hops_lt (HN.out x (List.mem_of_mem_take hx)).hp hne e
        have HOldF : Hid (∀ y ∈ F, y.m.x.L ≠ [] → ∀ p, y.m.ad = some p → p.block < w.heap.size) := by
          intro y hy hne p e
          rw [HFe.out] at hy
          obtain ⟨x, hx, em⟩ := mem_tk hy
          rw [em] at hne e
          exact hops_lt (HN.out x (List.mem_of_mem_take (List.mem_filter.1 hx).1)).hp hne e
        clear hbE hbF hE hF hap hEk hFk
        by_cases hlt : k < D.length
        · obtain ⟨b, off, rfl, hbl, d0, d1, d2, d3, d4, d5, d6, d7, d8⟩ := ItsRow.at HD.out k hlt
          have d0 := hg.keep d0
          have d1 := hg.keep d1
          have d2 := hg.keep d2
          have d3 := hg.keep d3
          have d4 := hg.keep d4
          have d5 := hg.keep d5
          have d6 := hg.keep d6
          have d7 := hg.keep d7
          have d8 := hg.keep d8
          have hbw : b < wr.heap.size := Nat.lt_of_lt_of_le hbl hg.size
          have hki : (k : Int) < (D.length : Int) := by omega
          have hk0' : (0 : Int) ≤ (k : Int) := by omega
          have HTE := Lib.hid (map_take_succ (z := now) hlt)
          have HTF := Lib.hid (filt_take_succ (z := now) hlt)
          have hrg := HRg.out D[k] (List.getElem_mem hlt)
          have HNx := Lib.hid (HN.out D[k] (List.getElem_mem hlt))
          clear hg
          generalize D[k] = x at *
          have hEm1 : E.length + 1 ≤ maxLen := by unfold maxLen; omega
          have hFm1 : F.length + 1 ≤ maxLen := by unfold maxLen; omega
          by_cases hle : x.d ≤ now
          · rw [if_pos hle] at HTF
            have HTk : Hid (tkM now x = ⟨x.q, now + Ox.del (Ox.more x.s), Ox.more x.s, x.m⟩) := by show _ = _; unfold tkM; rw [if_pos hle]
            rw [HTk.out] at HTE HTF
            clear HTk
            have HMo : Hid (Ox.more x.s = if x.s < 1000000 then x.s + 1 else x.s) := rfl
            obtain ⟨q, dd, s, ⟨⟨k0, r, n, L, dt, y⟩, ax, cx⟩⟩ := x
            dsimp only [Mn.v, Mi.v] at *
            by_cases hs : s < 1000000
            · have hmo : Ox.more s = s + 1 := by rw [HMo.out, if_pos hs]
              rw [hmo] at HTE HTF
              clear HMo hmo
              have HDl := Lib.hid (HDe.out (s + 1))
              obtain ⟨hdl1, hdl2⟩ := Ox.del_le (s + 1)
              generalize Ox.del (s + 1) = dl at *
              have gst : Gr wr (wr.alloc (.cells #[.int .i64 q, .int .i64 (now + dl), .int .i64 (s + 1), .int .i64 k0, .int .i64 r, .int .i64 n, .slice ax L.length cx, .string dt, .int .i64 y] 73)) := (Gr.refl _).alloc
              obtain ⟨W2, hW2⟩ : ∃ W2, W2 = (wr.alloc (.cells #[.int .i64 q, .int .i64 (now + dl), .int .i64 (s + 1), .int .i64 k0, .int .i64 r, .int .i64 n, .slice ax L.length cx, .string dt, .int .i64 y] 73)) := ⟨_, rfl⟩
              have hW2s : W2.heap.size = wr.heap.size + 1 := by rw [hW2]; simp
              have BX : Cs W2 wr.heap.size [.int .i64 q, .int .i64 (now + dl), .int .i64 (s + 1), .int .i64 k0, .int .i64 r, .int .i64 n, .slice ax L.length cx, .string dt, .int .i64 y] := by
                rw [hW2]
                exact Cs.new _ _ _ _ rfl
              rw [← hW2] at gst
              have HBX := Lib.hid BX
              have HOwF := Lib.hid ((HBF.out.gr gst).gr ((Gr.refl W2).alloc (o := .cells #[.int .i64 q, .int .i64 (now + dl), .int .i64 (s + 1), .int .i64 k0, .int .i64 r, .int .i64 n, .slice ax L.length cx, .string dt, .int .i64 y] 73)))
              have HOwE := Lib.hid ((HBE.out.gr gst).gr ((Gr.refl W2).alloc (o := .cells #[.int .i64 q, .int .i64 (now + dl), .int .i64 (s + 1), .int .i64 k0, .int .i64 r, .int .i64 n, .slice ax L.length cx, .string dt, .int .i64 y] 73)))
              have HM4 := Lib.hid ((HNx.out.gr (HG.out.trans gst)).gr ((Gr.refl W2).alloc (o := .cells #[.int .i64 q, .int .i64 (now + dl), .int .i64 (s + 1), .int .i64 k0, .int .i64 r, .int .i64 n, .slice ax L.length cx, .string dt, .int .i64 y] 73)))
              have HG4 : Hid (Gr w (W2.alloc (.cells #[.int .i64 q, .int .i64 (now + dl), .int .i64 (s + 1), .int .i64 k0, .int .i64 r, .int .i64 n, .slice ax L.length cx, .string dt, .int .i64 y] 73))) := (HG.out.trans gst).alloc
              have hnw := i_new W2 ⟨q, now + dl, s + 1, ⟨⟨k0, r, n, L, dt, y⟩, ax, cx⟩⟩ 73
              rw [show (iC ⟨q, now + dl, s + 1, ⟨⟨k0, r, n, L, dt, y⟩, ax, cx⟩⟩).toArray = #[.int .i64 q, .int .i64 (now + dl), .int .i64 (s + 1), .int .i64 k0, .int .i64 r, .int .i64 n, .slice ax L.length cx, .string dt, .int .i64 y] from rfl, hW2s] at hnw
              have HNw := Lib.hid hnw
              have HOld : Hid (L ≠ [] → ∀ p, ax = some p → p.block < w.heap.size) := fun hne p e => hops_lt HNx.out.hp hne e
              have hApF : L ≠ [] → ∀ p, ax = some p → (Value.slice b0 F.length d0').ownBlock ≠ some p.block := by
                intro hne p e kk
                have h1 := (HBF.out.own.lt _ kk).1
                have h2 := HOld.out hne p e
                omega
              have HApF := Lib.hid hApF
              have hlen4 : w.heap.size ≤ wr.heap.size := HG.out.size
              subst hW2
              clear hnw HNx gst BX hApF
              go_wp2_with fail
              refine (HDl.out _).mono ?_
              rintro e3 w3 ⟨rfl, hw3⟩; obtain rfl := hw3.symm
              go_wp2_with (first
                | (at_builtin; refine wpList_append_own_at _ rfl _ _ 53 rfl w.heap.size 73 i0 (.agg #[.int .i64 0, .int .i64 0, .int .i64 0, .int .i64 0, .int .i64 0, .int .i64 0, .slice none 0 0, .string ⟨#[]⟩, .int .i64 0]) 9 96 Tryz.underlying53 hi0 hz0 hz1 hz2 rfl (by decide) _ _ _ rfl HOwF.out.own ⟨wr.heap.size + 1, 0, none⟩ 1 1 ([(⟨q, now + dl, s + 1, ⟨⟨k0, r, n, L, dt, y⟩, ax, cx⟩⟩ : Mi)].flatMap iC) rfl rfl HNw.out (i_one _) hFm1 (by omega) (by simp; omega) ?_)
                | fail)
              intro v' w7 hown' hgrow _ hat
              have hat : v'.ownBlock = (Value.slice b0 F.length d0').ownBlock ∨ v'.ownBlock = some (wr.heap.size + 1 + 1) := by simpa using hat
              have hmo := Bxs.more (x := ⟨q, now + dl, s + 1, ⟨⟨k0, r, n, L, dt, y⟩, ax, cx⟩⟩) HOwF.out HM4.out HApF.out hown' hgrow (by simpa using hat)
              obtain ⟨a7, c7, rfl⟩ := own_slice3 hmo
              have hFlt : ∀ g, (Value.slice b0 F.length d0').ownBlock = some g → w.heap.size ≤ g ∧ g < wr.heap.size := fun g e => HBF.out.own.lt g e
              have hElt : ∀ g, (Value.slice a E.length c).ownBlock = some g → w.heap.size ≤ g ∧ g < wr.heap.size := fun g e => HBE.out.own.lt g e
              have hE7 : Bxs Z w7 w.heap.size (.slice a E.length c) E := by
                refine HOwE.out.other hgrow ?_ (fun yy hy hne p e kk => ?_)
                · cases e : (Value.slice a E.length c).ownBlock with
                  | none => exact Or.inl rfl
                  | some g => exact Or.inr (fun kk => HAp.out g e kk.symm)
                · have h1 := (hFlt _ kk).1
                  have h2 := HOldE.out yy hy hne p e
                  omega
              have hx7 : MnAt Z w7 ⟨⟨k0, r, n, L, dt, y⟩, ax, cx⟩ := ⟨hops_kept HM4.out.hp hgrow HApF.out, HM4.out.hl, HM4.out.hc, HM4.out.hd, HM4.out.hz⟩
              have hb7 : Cs w7 wr.heap.size [.int .i64 q, .int .i64 (now + dl), .int .i64 (s + 1), .int .i64 k0, .int .i64 r, .int .i64 n, .slice ax L.length cx, .string dt, .int .i64 y] := (HBX.out.alloc).grown hgrow (fun kk => by have := (hFlt _ kk).2; omega)
              have g7 : Gr w w7 := HOwF.out.grown HG4.out hgrow (Nat.le_refl _)
              have hs7 : wr.heap.size + 2 ≤ w7.heap.size := by have := hgrow.size; simp at this; omega
              have hap7 : ∀ g, (Value.slice a E.length c).ownBlock = some g → (Value.slice a7 (F ++ [(⟨q, now + dl, s + 1, ⟨⟨k0, r, n, L, dt, y⟩, ax, cx⟩⟩ : Mi)]).length c7).ownBlock ≠ some g := by
                intro g e kk
                have h3 := (hElt g e).2
                rcases hat with h | h
                · rw [h] at kk; exact HAp.out g e kk
                · rw [h] at kk; have := Option.some.inj kk; omega
              have HF7 := Lib.hid (hmo.gr ((Gr.refl w7).alloc (o := .cells #[.int .i64 q, .int .i64 (now + dl), .int .i64 (s + 1), .int .i64 k0, .int .i64 r, .int .i64 n, .slice ax L.length cx, .string dt, .int .i64 y] 73)))
              have HE7 := Lib.hid (hE7.gr ((Gr.refl w7).alloc (o := .cells #[.int .i64 q, .int .i64 (now + dl), .int .i64 (s + 1), .int .i64 k0, .int .i64 r, .int .i64 n, .slice ax L.length cx, .string dt, .int .i64 y] 73)))
              have HX7 := Lib.hid (hx7.gr ((Gr.refl w7).alloc (o := .cells #[.int .i64 q, .int .i64 (now + dl), .int .i64 (s + 1), .int .i64 k0, .int .i64 r, .int .i64 n, .slice ax L.length cx, .string dt, .int .i64 y] 73)))
              have HG7 := Lib.hid (g7.alloc (o := .cells #[.int .i64 q, .int .i64 (now + dl), .int .i64 (s + 1), .int .i64 k0, .int .i64 r, .int .i64 n, .slice ax L.length cx, .string dt, .int .i64 y] 73))
              have hnw := i_new w7 ⟨q, now + dl, s + 1, ⟨⟨k0, r, n, L, dt, y⟩, ax, cx⟩⟩ 73
              rw [show (iC ⟨q, now + dl, s + 1, ⟨⟨k0, r, n, L, dt, y⟩, ax, cx⟩⟩).toArray = #[.int .i64 q, .int .i64 (now + dl), .int .i64 (s + 1), .int .i64 k0, .int .i64 r, .int .i64 n, .slice ax L.length cx, .string dt, .int .i64 y] from rfl] at hnw
              have HNw7 := Lib.hid hnw
              have HAp7 := Lib.hid hap7
              have HEl7 := Lib.hid hElt
              have HS7 := Lib.hid hs7
              have hlen7 : w.heap.size ≤ w7.heap.size := g7.size
              have HApE : Hid (L ≠ [] → ∀ p, ax = some p → (Value.slice a E.length c).ownBlock ≠ some p.block) := by
                intro hne p e kk
                have h1 := (hElt _ kk).1
                have h2 := HOld.out hne p e
                omega
              have HTF2 : Hid (F ++ [(⟨q, now + dl, s + 1, ⟨⟨k0, r, n, L, dt, y⟩, ax, cx⟩⟩ : Mi)] = ((D.take (k + 1)).filter fun x => decide (x.d ≤ now)).map (tkM now)) := by show _ = _; rw [HTF.out, ← HFe.out]
              have HFl2 : Hid ((F ++ [(⟨q, now + dl, s + 1, ⟨⟨k0, r, n, L, dt, y⟩, ax, cx⟩⟩ : Mi)]).length = F.length + 1) := by show _ = _; simp
              have HOldF2 : Hid (∀ zz ∈ F ++ [(⟨q, now + dl, s + 1, ⟨⟨k0, r, n, L, dt, y⟩, ax, cx⟩⟩ : Mi)], zz.m.x.L ≠ [] → ∀ p, zz.m.ad = some p → p.block < w.heap.size) := by
                intro yy hy hne p e
                rcases List.mem_append.1 hy with hy | hy
                · exact HOldF.out yy hy hne p e
                · rw [List.mem_singleton] at hy; subst hy; exact HOld.out hne p e
              have y0 := hb7.at_ 0 _ rfl
              have y1 := hb7.at_ 1 _ rfl
              have y2 := hb7.at_ 2 _ rfl
              have y3 := hb7.at_ 3 _ rfl
              have y4 := hb7.at_ 4 _ rfl
              have y5 := hb7.at_ 5 _ rfl
              have y6 := hb7.at_ 6 _ rfl
              have y7 := hb7.at_ 7 _ rfl
              have y8 := hb7.at_ 8 _ rfl
              have yf0 := hb7.fz 0 (by simp)
              have yf1 := hb7.fz 1 (by simp)
              have yf2 := hb7.fz 2 (by simp)
              have yf3 := hb7.fz 3 (by simp)
              have yf4 := hb7.fz 4 (by simp)
              have yf5 := hb7.fz 5 (by simp)
              have yf6 := hb7.fz 6 (by simp)
              have yf7 := hb7.fz 7 (by simp)
              have yf8 := hb7.fz 8 (by simp)
              have ylt := hb7.lt
              clear hmo hown' hgrow hat hE7 hx7 hb7 g7 hs7 hap7 hnw hFlt hElt HOwF HOwE HM4 HG4 HNw HApF HBX HDl d0 d1 d2 d3 d4 d5 d6 d7 d8 hW2s
              generalize (F ++ [(⟨q, now + dl, s + 1, ⟨⟨k0, r, n, L, dt, y⟩, ax, cx⟩⟩ : Mi)]) = F2 at *
              go_wp2_with (first
                | (at_builtin; refine wpList_append_own_at _ rfl _ _ 53 rfl w.heap.size 73 i0 (.agg #[.int .i64 0, .int .i64 0, .int .i64 0, .int .i64 0, .int .i64 0, .int .i64 0, .slice none 0 0, .string ⟨#[]⟩, .int .i64 0]) 9 96 Tryz.underlying53 hi0 hz0 hz1 hz2 rfl (by decide) _ _ _ rfl HE7.out.own ⟨w7.heap.size, 0, none⟩ 1 1 ([(⟨q, now + dl, s + 1, ⟨⟨k0, r, n, L, dt, y⟩, ax, cx⟩⟩ : Mi)].flatMap iC) rfl rfl HNw7.out (i_one _) hEm1 (by omega) (by simp; omega) ?_)
                | fail)
              intro v'' w8 hown' hgrow _ hat
              have hat : v''.ownBlock = (Value.slice a E.length c).ownBlock ∨ v''.ownBlock = some (w7.heap.size + 1) := by simpa using hat
              have hmo := Bxs.more (x := ⟨q, now + dl, s + 1, ⟨⟨k0, r, n, L, dt, y⟩, ax, cx⟩⟩) HE7.out HX7.out HApE.out hown' hgrow (by simpa using hat)
              obtain ⟨a8, c8, rfl⟩ := own_slice3 hmo
              have hF8 : Bxs Z w8 w.heap.size (.slice a7 F2.length c7) F2 := by
                refine HF7.out.other hgrow ?_ (fun yy hy hne p e kk => ?_)
                · cases e : (Value.slice a E.length c).ownBlock with
                  | none => cases e2 : (Value.slice a7 F2.length c7).ownBlock with
                    | none => exact Or.inl rfl
                    | some g => exact Or.inr (fun kk => by cases kk)
                  | some g => exact Or.inr (fun kk => HAp7.out g e kk)
                · have h1 := (HEl7.out _ kk).1
                  have h2 := HOldF2.out yy hy hne p e
                  omega
              have hap8 : ∀ g, (Value.slice a8 (E ++ [(⟨q, now + dl, s + 1, ⟨⟨k0, r, n, L, dt, y⟩, ax, cx⟩⟩ : Mi)]).length c8).ownBlock = some g → (Value.slice a7 F2.length c7).ownBlock ≠ some g := by
                intro g e kk
                rcases hat with h | h
                · rw [h] at e; exact HAp7.out g e kk
                · rw [h] at e
                  have e3 := Option.some.inj e
                  have := (HF7.out.own.lt g kk).2
                  simp at this
                  omega
              have HMo := Lib.hid hmo
              have HF8 := Lib.hid hF8
              have HAp8 := Lib.hid hap8
              have HG8 := Lib.hid (HE7.out.grown HG7.out hgrow (Nat.le_refl _))
              have HTE2 : Hid (E ++ [(⟨q, now + dl, s + 1, ⟨⟨k0, r, n, L, dt, y⟩, ax, cx⟩⟩ : Mi)] = (D.take (k + 1)).map (tkM now)) := by show _ = _; rw [HTE.out, ← HEe.out]
              clear hmo hown' hgrow hat hF8 hap8 HE7 HX7 HG7 HNw7 HAp7 HEl7 HF7 y0 y1 y2 y3 y4 y5 y6 y7 y8 yf0 yf1 yf2 yf3 yf4 yf5 yf6 yf7 yf8 ylt
              go_wp2
              go_roundw
              case rel => exact ⟨k + 1, a8, c8, E ++ [(⟨q, now + dl, s + 1, ⟨⟨k0, r, n, L, dt, y⟩, ax, cx⟩⟩ : Mi)], a7, c7, F2, by go_num, by simp, rfl, by omega, by have := HEk.out; simp; omega, by have := HFk.out; have := HFl2.out; omega, HTE2.out, HTF2.out, HMo.out, HF8.out, HAp8.out, HG8.out⟩
              case measure => simp [intOf]; omega
            · obtain rfl : s = 1000000 := by omega
              have hmo : Ox.more 1000000 = 1000000 := rfl
              rw [hmo] at HTE HTF
              clear HMo hmo
              have HDl := Lib.hid (HDe.out 1000000)
              obtain ⟨hdl1, hdl2⟩ := Ox.del_le 1000000
              generalize Ox.del 1000000 = dl at *
              have gst : Gr wr (wr.alloc (.cells #[.int .i64 q, .int .i64 (now + dl), .int .i64 1000000, .int .i64 k0, .int .i64 r, .int .i64 n, .slice ax L.length cx, .string dt, .int .i64 y] 73)) := (Gr.refl _).alloc
              obtain ⟨W2, hW2⟩ : ∃ W2, W2 = (wr.alloc (.cells #[.int .i64 q, .int .i64 (now + dl), .int .i64 1000000, .int .i64 k0, .int .i64 r, .int .i64 n, .slice ax L.length cx, .string dt, .int .i64 y] 73)) := ⟨_, rfl⟩
              have hW2s : W2.heap.size = wr.heap.size + 1 := by rw [hW2]; simp
              have BX : Cs W2 wr.heap.size [.int .i64 q, .int .i64 (now + dl), .int .i64 1000000, .int .i64 k0, .int .i64 r, .int .i64 n, .slice ax L.length cx, .string dt, .int .i64 y] := by
                rw [hW2]
                exact Cs.new _ _ _ _ rfl
              rw [← hW2] at gst
              have HBX := Lib.hid BX
              have HOwF := Lib.hid ((HBF.out.gr gst).gr ((Gr.refl W2).alloc (o := .cells #[.int .i64 q, .int .i64 (now + dl), .int .i64 1000000, .int .i64 k0, .int .i64 r, .int .i64 n, .slice ax L.length cx, .string dt, .int .i64 y] 73)))
              have HOwE := Lib.hid ((HBE.out.gr gst).gr ((Gr.refl W2).alloc (o := .cells #[.int .i64 q, .int .i64 (now + dl), .int .i64 1000000, .int .i64 k0, .int .i64 r, .int .i64 n, .slice ax L.length cx, .string dt, .int .i64 y] 73)))
              have HM4 := Lib.hid ((HNx.out.gr (HG.out.trans gst)).gr ((Gr.refl W2).alloc (o := .cells #[.int .i64 q, .int .i64 (now + dl), .int .i64 1000000, .int .i64 k0, .int .i64 r, .int .i64 n, .slice ax L.length cx, .string dt, .int .i64 y] 73)))
              have HG4 : Hid (Gr w (W2.alloc (.cells #[.int .i64 q, .int .i64 (now + dl), .int .i64 1000000, .int .i64 k0, .int .i64 r, .int .i64 n, .slice ax L.length cx, .string dt, .int .i64 y] 73))) := (HG.out.trans gst).alloc
              have hnw := i_new W2 ⟨q, now + dl, 1000000, ⟨⟨k0, r, n, L, dt, y⟩, ax, cx⟩⟩ 73
              rw [show (iC ⟨q, now + dl, 1000000, ⟨⟨k0, r, n, L, dt, y⟩, ax, cx⟩⟩).toArray = #[.int .i64 q, .int .i64 (now + dl), .int .i64 1000000, .int .i64 k0, .int .i64 r, .int .i64 n, .slice ax L.length cx, .string dt, .int .i64 y] from rfl, hW2s] at hnw
              have HNw := Lib.hid hnw
              have HOld : Hid (L ≠ [] → ∀ p, ax = some p → p.block < w.heap.size) := fun hne p e => hops_lt HNx.out.hp hne e
              have hApF : L ≠ [] → ∀ p, ax = some p → (Value.slice b0 F.length d0').ownBlock ≠ some p.block := by
                intro hne p e kk
                have h1 := (HBF.out.own.lt _ kk).1
                have h2 := HOld.out hne p e
                omega
              have HApF := Lib.hid hApF
              have hlen4 : w.heap.size ≤ wr.heap.size := HG.out.size
              subst hW2
              clear hnw HNx gst BX hApF
              go_wp2_with fail
              refine (HDl.out _).mono ?_
              rintro e3 w3 ⟨rfl, hw3⟩; obtain rfl := hw3.symm
              go_wp2_with (first
                | (at_builtin; refine wpList_append_own_at _ rfl _ _ 53 rfl w.heap.size 73 i0 (.agg #[.int .i64 0, .int .i64 0, .int .i64 0, .int .i64 0, .int .i64 0, .int .i64 0, .slice none 0 0, .string ⟨#[]⟩, .int .i64 0]) 9 96 Tryz.underlying53 hi0 hz0 hz1 hz2 rfl (by decide) _ _ _ rfl HOwF.out.own ⟨wr.heap.size + 1, 0, none⟩ 1 1 ([(⟨q, now + dl, 1000000, ⟨⟨k0, r, n, L, dt, y⟩, ax, cx⟩⟩ : Mi)].flatMap iC) rfl rfl HNw.out (i_one _) hFm1 (by omega) (by simp; omega) ?_)
                | fail)
              intro v' w7 hown' hgrow _ hat
              have hat : v'.ownBlock = (Value.slice b0 F.length d0').ownBlock ∨ v'.ownBlock = some (wr.heap.size + 1 + 1) := by simpa using hat
              have hmo := Bxs.more (x := ⟨q, now + dl, 1000000, ⟨⟨k0, r, n, L, dt, y⟩, ax, cx⟩⟩) HOwF.out HM4.out HApF.out hown' hgrow (by simpa using hat)
              obtain ⟨a7, c7, rfl⟩ := own_slice3 hmo
              have hFlt : ∀ g, (Value.slice b0 F.length d0').ownBlock = some g → w.heap.size ≤ g ∧ g < wr.heap.size := fun g e => HBF.out.own.lt g e
              have hElt : ∀ g, (Value.slice a E.length c).ownBlock = some g → w.heap.size ≤ g ∧ g < wr.heap.size := fun g e => HBE.out.own.lt g e
              have hE7 : Bxs Z w7 w.heap.size (.slice a E.length c) E := by
                refine HOwE.out.other hgrow ?_ (fun yy hy hne p e kk => ?_)
                · cases e : (Value.slice a E.length c).ownBlock with
                  | none => exact Or.inl rfl
                  | some g => exact Or.inr (fun kk => HAp.out g e kk.symm)
                · have h1 := (hFlt _ kk).1
                  have h2 := HOldE.out yy hy hne p e
                  omega
              have hx7 : MnAt Z w7 ⟨⟨k0, r, n, L, dt, y⟩, ax, cx⟩ := ⟨hops_kept HM4.out.hp hgrow HApF.out, HM4.out.hl, HM4.out.hc, HM4.out.hd, HM4.out.hz⟩
              have hb7 : Cs w7 wr.heap.size [.int .i64 q, .int .i64 (now + dl), .int .i64 1000000, .int .i64 k0, .int .i64 r, .int .i64 n, .slice ax L.length cx, .string dt, .int .i64 y] := (HBX.out.alloc).grown hgrow (fun kk => by have := (hFlt _ kk).2; omega)
              have g7 : Gr w w7 := HOwF.out.grown HG4.out hgrow (Nat.le_refl _)
              have hs7 : wr.heap.size + 2 ≤ w7.heap.size := by have := hgrow.size; simp at this; omega
              have hap7 : ∀ g, (Value.slice a E.length c).ownBlock = some g → (Value.slice a7 (F ++ [(⟨q, now + dl, 1000000, ⟨⟨k0, r, n, L, dt, y⟩, ax, cx⟩⟩ : Mi)]).length c7).ownBlock ≠ some g := by
                intro g e kk
                have h3 := (hElt g e).2
                rcases hat with h | h
                · rw [h] at kk; exact HAp.out g e kk
                · rw [h] at kk; have := Option.some.inj kk; omega
              have HF7 := Lib.hid (hmo.gr ((Gr.refl w7).alloc (o := .cells #[.int .i64 q, .int .i64 (now + dl), .int .i64 1000000, .int .i64 k0, .int .i64 r, .int .i64 n, .slice ax L.length cx, .string dt, .int .i64 y] 73)))
              have HE7 := Lib.hid (hE7.gr ((Gr.refl w7).alloc (o := .cells #[.int .i64 q, .int .i64 (now + dl), .int .i64 1000000, .int .i64 k0, .int .i64 r, .int .i64 n, .slice ax L.length cx, .string dt, .int .i64 y] 73)))
              have HX7 := Lib.hid (hx7.gr ((Gr.refl w7).alloc (o := .cells #[.int .i64 q, .int .i64 (now + dl), .int .i64 1000000, .int .i64 k0, .int .i64 r, .int .i64 n, .slice ax L.length cx, .string dt, .int .i64 y] 73)))
              have HG7 := Lib.hid (g7.alloc (o := .cells #[.int .i64 q, .int .i64 (now + dl), .int .i64 1000000, .int .i64 k0, .int .i64 r, .int .i64 n, .slice ax L.length cx, .string dt, .int .i64 y] 73))
              have hnw := i_new w7 ⟨q, now + dl, 1000000, ⟨⟨k0, r, n, L, dt, y⟩, ax, cx⟩⟩ 73
              rw [show (iC ⟨q, now + dl, 1000000, ⟨⟨k0, r, n, L, dt, y⟩, ax, cx⟩⟩).toArray = #[.int .i64 q, .int .i64 (now + dl), .int .i64 1000000, .int .i64 k0, .int .i64 r, .int .i64 n, .slice ax L.length cx, .string dt, .int .i64 y] from rfl] at hnw
              have HNw7 := Lib.hid hnw
              have HAp7 := Lib.hid hap7
              have HEl7 := Lib.hid hElt
              have HS7 := Lib.hid hs7
              have hlen7 : w.heap.size ≤ w7.heap.size := g7.size
              have HApE : Hid (L ≠ [] → ∀ p, ax = some p → (Value.slice a E.length c).ownBlock ≠ some p.block) := by
                intro hne p e kk
                have h1 := (hElt _ kk).1
                have h2 := HOld.out hne p e
                omega
              have HTF2 : Hid (F ++ [(⟨q, now + dl, 1000000, ⟨⟨k0, r, n, L, dt, y⟩, ax, cx⟩⟩ : Mi)] = ((D.take (k + 1)).filter fun x => decide (x.d ≤ now)).map (tkM now)) := by show _ = _; rw [HTF.out, ← HFe.out]
              have HFl2 : Hid ((F ++ [(⟨q, now + dl, 1000000, ⟨⟨k0, r, n, L, dt, y⟩, ax, cx⟩⟩ : Mi)]).length = F.length + 1) := by show _ = _; simp
              have HOldF2 : Hid (∀ zz ∈ F ++ [(⟨q, now + dl, 1000000, ⟨⟨k0, r, n, L, dt, y⟩, ax, cx⟩⟩ : Mi)], zz.m.x.L ≠ [] → ∀ p, zz.m.ad = some p → p.block < w.heap.size) := by
                intro yy hy hne p e
                rcases List.mem_append.1 hy with hy | hy
                · exact HOldF.out yy hy hne p e
                · rw [List.mem_singleton] at hy; subst hy; exact HOld.out hne p e
              have y0 := hb7.at_ 0 _ rfl
              have y1 := hb7.at_ 1 _ rfl
              have y2 := hb7.at_ 2 _ rfl
              have y3 := hb7.at_ 3 _ rfl
              have y4 := hb7.at_ 4 _ rfl
              have y5 := hb7.at_ 5 _ rfl
              have y6 := hb7.at_ 6 _ rfl
              have y7 := hb7.at_ 7 _ rfl
              have y8 := hb7.at_ 8 _ rfl
              have yf0 := hb7.fz 0 (by simp)
              have yf1 := hb7.fz 1 (by simp)
              have yf2 := hb7.fz 2 (by simp)
              have yf3 := hb7.fz 3 (by simp)
              have yf4 := hb7.fz 4 (by simp)
              have yf5 := hb7.fz 5 (by simp)
              have yf6 := hb7.fz 6 (by simp)
              have yf7 := hb7.fz 7 (by simp)
              have yf8 := hb7.fz 8 (by simp)
              have ylt := hb7.lt
              clear hmo hown' hgrow hat hE7 hx7 hb7 g7 hs7 hap7 hnw hFlt hElt HOwF HOwE HM4 HG4 HNw HApF HBX HDl d0 d1 d2 d3 d4 d5 d6 d7 d8 hW2s
              generalize (F ++ [(⟨q, now + dl, 1000000, ⟨⟨k0, r, n, L, dt, y⟩, ax, cx⟩⟩ : Mi)]) = F2 at *
              go_wp2_with (first
                | (at_builtin; refine wpList_append_own_at _ rfl _ _ 53 rfl w.heap.size 73 i0 (.agg #[.int .i64 0, .int .i64 0, .int .i64 0, .int .i64 0, .int .i64 0, .int .i64 0, .slice none 0 0, .string ⟨#[]⟩, .int .i64 0]) 9 96 Tryz.underlying53 hi0 hz0 hz1 hz2 rfl (by decide) _ _ _ rfl HE7.out.own ⟨w7.heap.size, 0, none⟩ 1 1 ([(⟨q, now + dl, 1000000, ⟨⟨k0, r, n, L, dt, y⟩, ax, cx⟩⟩ : Mi)].flatMap iC) rfl rfl HNw7.out (i_one _) hEm1 (by omega) (by simp; omega) ?_)
                | fail)
              intro v'' w8 hown' hgrow _ hat
              have hat : v''.ownBlock = (Value.slice a E.length c).ownBlock ∨ v''.ownBlock = some (w7.heap.size + 1) := by simpa using hat
              have hmo := Bxs.more (x := ⟨q, now + dl, 1000000, ⟨⟨k0, r, n, L, dt, y⟩, ax, cx⟩⟩) HE7.out HX7.out HApE.out hown' hgrow (by simpa using hat)
              obtain ⟨a8, c8, rfl⟩ := own_slice3 hmo
              have hF8 : Bxs Z w8 w.heap.size (.slice a7 F2.length c7) F2 := by
                refine HF7.out.other hgrow ?_ (fun yy hy hne p e kk => ?_)
                · cases e : (Value.slice a E.length c).ownBlock with
                  | none => cases e2 : (Value.slice a7 F2.length c7).ownBlock with
                    | none => exact Or.inl rfl
                    | some g => exact Or.inr (fun kk => by cases kk)
                  | some g => exact Or.inr (fun kk => HAp7.out g e kk)
                · have h1 := (HEl7.out _ kk).1
                  have h2 := HOldF2.out yy hy hne p e
                  omega
              have hap8 : ∀ g, (Value.slice a8 (E ++ [(⟨q, now + dl, 1000000, ⟨⟨k0, r, n, L, dt, y⟩, ax, cx⟩⟩ : Mi)]).length c8).ownBlock = some g → (Value.slice a7 F2.length c7).ownBlock ≠ some g := by
                intro g e kk
                rcases hat with h | h
                · rw [h] at e; exact HAp7.out g e kk
                · rw [h] at e
                  have e3 := Option.some.inj e
                  have := (HF7.out.own.lt g kk).2
                  simp at this
                  omega
              have HMo := Lib.hid hmo
              have HF8 := Lib.hid hF8
              have HAp8 := Lib.hid hap8
              have HG8 := Lib.hid (HE7.out.grown HG7.out hgrow (Nat.le_refl _))
              have HTE2 : Hid (E ++ [(⟨q, now + dl, 1000000, ⟨⟨k0, r, n, L, dt, y⟩, ax, cx⟩⟩ : Mi)] = (D.take (k + 1)).map (tkM now)) := by show _ = _; rw [HTE.out, ← HEe.out]
              clear hmo hown' hgrow hat hF8 hap8 HE7 HX7 HG7 HNw7 HAp7 HEl7 HF7 y0 y1 y2 y3 y4 y5 y6 y7 y8 yf0 yf1 yf2 yf3 yf4 yf5 yf6 yf7 yf8 ylt
              go_wp2
              go_roundw
              case rel => exact ⟨k + 1, a8, c8, E ++ [(⟨q, now + dl, 1000000, ⟨⟨k0, r, n, L, dt, y⟩, ax, cx⟩⟩ : Mi)], a7, c7, F2, by go_num, by simp, rfl, by omega, by have := HEk.out; simp; omega, by have := HFk.out; have := HFl2.out; omega, HTE2.out, HTF2.out, HMo.out, HF8.out, HAp8.out, HG8.out⟩
              case measure => simp [intOf]; omega
          · rw [if_neg hle, List.append_nil] at HTF
            have HTk : Hid (tkM now x = x) := by show _ = _; unfold tkM; rw [if_neg hle]
            rw [HTk.out] at HTE
            clear HTk
            obtain ⟨q, dd, s, ⟨⟨k0, r, n, L, dt, y⟩, ax, cx⟩⟩ := x
            dsimp only [Mn.v, Mi.v] at *
            obtain ⟨W2, hW2⟩ : ∃ W2, W2 = wr.alloc (.cells #[.int .i64 q, .int .i64 dd, .int .i64 s, .int .i64 k0, .int .i64 r, .int .i64 n, .slice ax L.length cx, .string dt, .int .i64 y] 73) := ⟨_, rfl⟩
            have gst : Gr wr W2 := by rw [hW2]; exact (Gr.refl _).alloc
            have hW2s : W2.heap.size = wr.heap.size + 1 := by rw [hW2]; simp
            have HOwF := Lib.hid ((HBF.out.gr gst).gr ((Gr.refl W2).alloc (o := .cells #[.int .i64 q, .int .i64 dd, .int .i64 s, .int .i64 k0, .int .i64 r, .int .i64 n, .slice ax L.length cx, .string dt, .int .i64 y] 73)))
            have HOwE := Lib.hid ((HBE.out.gr gst).gr ((Gr.refl W2).alloc (o := .cells #[.int .i64 q, .int .i64 dd, .int .i64 s, .int .i64 k0, .int .i64 r, .int .i64 n, .slice ax L.length cx, .string dt, .int .i64 y] 73)))
            have HM4 := Lib.hid ((HNx.out.gr (HG.out.trans gst)).gr ((Gr.refl W2).alloc (o := .cells #[.int .i64 q, .int .i64 dd, .int .i64 s, .int .i64 k0, .int .i64 r, .int .i64 n, .slice ax L.length cx, .string dt, .int .i64 y] 73)))
            have HG4 : Hid (Gr w (W2.alloc (.cells #[.int .i64 q, .int .i64 dd, .int .i64 s, .int .i64 k0, .int .i64 r, .int .i64 n, .slice ax L.length cx, .string dt, .int .i64 y] 73))) := (HG.out.trans gst).alloc
            have hnw := i_new W2 ⟨q, dd, s, ⟨⟨k0, r, n, L, dt, y⟩, ax, cx⟩⟩ 73
            rw [show (iC ⟨q, dd, s, ⟨⟨k0, r, n, L, dt, y⟩, ax, cx⟩⟩).toArray = #[.int .i64 q, .int .i64 dd, .int .i64 s, .int .i64 k0, .int .i64 r, .int .i64 n, .slice ax L.length cx, .string dt, .int .i64 y] from rfl, hW2s] at hnw
            have HNw := Lib.hid hnw
            have hElt : ∀ g, (Value.slice a E.length c).ownBlock = some g → w.heap.size ≤ g ∧ g < wr.heap.size := fun g e => HBE.out.own.lt g e
            have HElt := Lib.hid hElt
            have HFlt : Hid (∀ g, (Value.slice b0 F.length d0').ownBlock = some g → w.heap.size ≤ g ∧ g < wr.heap.size) := fun g e => HBF.out.own.lt g e
            have HApE : Hid (L ≠ [] → ∀ p, ax = some p → (Value.slice a E.length c).ownBlock ≠ some p.block) := by
              intro hne p e kk
              have h1 := (hElt _ kk).1
              have h2 := hops_lt HNx.out.hp hne e
              omega
            have hlen4 : w.heap.size ≤ wr.heap.size := HG.out.size
            subst hW2
            clear hnw HNx gst hElt
            go_wp2_with (first
              | (at_builtin; refine wpList_append_own_at _ rfl _ _ 53 rfl w.heap.size 73 i0 (.agg #[.int .i64 0, .int .i64 0, .int .i64 0, .int .i64 0, .int .i64 0, .int .i64 0, .slice none 0 0, .string ⟨#[]⟩, .int .i64 0]) 9 96 Tryz.underlying53 hi0 hz0 hz1 hz2 rfl (by decide) _ _ _ rfl HOwE.out.own ⟨wr.heap.size + 1, 0, none⟩ 1 1 ([(⟨q, dd, s, ⟨⟨k0, r, n, L, dt, y⟩, ax, cx⟩⟩ : Mi)].flatMap iC) rfl rfl HNw.out (i_one _) hEm1 (by omega) (by simp; omega) ?_)
              | fail)
            intro v'' w8 hown' hgrow _ hat
            have hat : v''.ownBlock = (Value.slice a E.length c).ownBlock ∨ v''.ownBlock = some (wr.heap.size + 1 + 1) := by simpa using hat
            have hmo := Bxs.more (x := ⟨q, dd, s, ⟨⟨k0, r, n, L, dt, y⟩, ax, cx⟩⟩) HOwE.out HM4.out HApE.out hown' hgrow (by simpa using hat)
            obtain ⟨a8, c8, rfl⟩ := own_slice3 hmo
            have hF8 : Bxs Z w8 w.heap.size (.slice b0 F.length d0') F := by
              refine HOwF.out.other hgrow ?_ (fun yy hy hne p e kk => ?_)
              · cases e : (Value.slice a E.length c).ownBlock with
                | none => cases e2 : (Value.slice b0 F.length d0').ownBlock with
                  | none => exact Or.inl rfl
                  | some g => exact Or.inr (fun kk => by cases kk)
                | some g => exact Or.inr (fun kk => HAp.out g e kk)
              · have h1 := (HElt.out _ kk).1
                have h2 := HOldF.out yy hy hne p e
                omega
            have hap8 : ∀ g, (Value.slice a8 (E ++ [(⟨q, dd, s, ⟨⟨k0, r, n, L, dt, y⟩, ax, cx⟩⟩ : Mi)]).length c8).ownBlock = some g → (Value.slice b0 F.length d0').ownBlock ≠ some g := by
              intro g e kk
              rcases hat with h | h
              · rw [h] at e; exact HAp.out g e kk
              · rw [h] at e
                have e3 := Option.some.inj e
                have := (HFlt.out g kk).2
                omega
            have HMo := Lib.hid hmo
            have HF8 := Lib.hid hF8
            have HAp8 := Lib.hid hap8
            have HG8 := Lib.hid (HOwE.out.grown HG4.out hgrow (Nat.le_refl _))
            have HTE2 : Hid (E ++ [(⟨q, dd, s, ⟨⟨k0, r, n, L, dt, y⟩, ax, cx⟩⟩ : Mi)] = (D.take (k + 1)).map (tkM now)) := by show _ = _; rw [HTE.out, ← HEe.out]
            have HTF2 : Hid (F = ((D.take (k + 1)).filter fun x => decide (x.d ≤ now)).map (tkM now)) := by show _ = _; rw [HTF.out, ← HFe.out]
            clear hmo hown' hgrow hat hF8 hap8 HOwE HOwF HM4 HG4 HNw HApE HElt HFlt d0 d1 d2 d3 d4 d5 d6 d7 d8 hW2s
            go_wp2
            go_roundw
            case rel => exact ⟨k + 1, a8, c8, E ++ [(⟨q, dd, s, ⟨⟨k0, r, n, L, dt, y⟩, ax, cx⟩⟩ : Mi)], b0, d0', F, by go_num, by simp, rfl, by omega, by have := HEk.out; simp; omega, by have := HFk.out; omega, HTE2.out, HTF2.out, HMo.out, HF8.out, HAp8.out, HG8.out⟩
            case measure => simp [intOf]; omega
        · have hge : ¬ ((k : Int) < (D.length : Int)) := by omega
          have HL1 : Hid (its E = Ox.dueL okN (its D) now) := by
            show _ = _
            rw [HEe.out, HF1.out, List.take_of_length_le (by omega)]
          have HL2 : Hid (its F = Ox.dueD okN (its D) now) := by
            show _ = _
            rw [HFe.out, HF2.out, List.take_of_length_le (by omega)]
          clear hg
          go_wp2
          go_ret2
          exact ⟨a, c, E, b0, d0', F, rfl, HBE.out, HBF.out, HL1.out, HL2.out, HG.out⟩
end Go.Proofs.YthfbpilfdfploaaGreat
