/- What the proof is made of, part 17. -/
import Derived.Test.YtfobfpigbfepoaaGreatDoorTLBTexts16
namespace Go.Proofs.YtfobfpigbfepoaaGreatDoor
open Go.RowKit Go.Shelf
open Lex (Tok ckE scT scF scA)
open Df (Stp tk pE pA pT pN pL)
attribute [local go_sem] Oper.semAt_some
def ReR (w : World) (B : List Bk.Dn) (z p : Int) (e : Ending) (w' : World) : Prop :=
  ∃ a c R, e = .returned (.tuple #[.slice a R.length c, .agg #[.int .i64 z, .int .i64 p]]) ∧ Book w' w.heap.size (.slice a R.length c) R ∧ dns R = B ∧ Gr w w'
structure RdI (w : World) (F : Nat) (pre : List (Int × Dm)) (A : World) : Prop where
  ok : Bk.addE [] (pre.map (fun x => x.2.dn)) = 0
  bk : ∃ v D, Boxed A (F + 1) 22 v ∧ Book A (F + 3) v D ∧ dns D = Bk.addD [] (pre.map (fun x => x.2.dn))
  r2 : Boxed A w.heap.size 22 (.slice none 0 0)
  r3 : TwoAt A (w.heap.size + 1) (.int .i64 0) (.int .i64 0)
  sz : F + 3 ≤ A.heap.size
  g : Gr w A
structure RdX (w : World) (F : Nat) (pre : List (Int × Dm)) (A : World) : Prop where
  no : ∃ p x, pre = p ++ [x] ∧ Bk.addE [] (p.map (fun x => x.2.dn)) = 0 ∧ Bk.putE (Bk.addD [] (p.map (fun x => x.2.dn))) x.2.dn ≠ 0 ∧ TwoAt A (w.heap.size + 1) (.int .i64 (Bk.putE (Bk.addD [] (p.map (fun x => x.2.dn))) x.2.dn)) (.int .i64 x.1)
  r2 : Boxed A w.heap.size 22 (.slice none 0 0)
  g : Gr w A
theorem TwoAt.kept {w w' : World} {g : Nat} {x y : Value} {r : Nat} (h : TwoAt w g x y) (k : w.grownBy w' (some r)) (hne : g ≠ r) : TwoAt w' g x y := h.grown k (fun e => hne (by cases e; rfl))
theorem RdI.stays {w : World} {F : Nat} (hF : w.heap.size + 2 ≤ F) : Stays (F + 2) (F + 3) (RdI w F) := by
  rintro pre A C r ⟨h1, ⟨v, D, h2, h3, h4⟩, h5, h6, h7, h8⟩ hg hr
  have hr2 : F + 2 ≤ r := by rcases hr with rfl | ⟨h, _⟩ <;> omega
  refine ⟨h1, ⟨v, D, h2.kept hg (fun e => by cases e; omega), h3.kept hg ?_, h4⟩, h5.kept hg (fun e => by cases e; omega), h6.kept hg (by omega), Nat.le_trans h7 hg.size, h8.grown hg (fun k e => by cases e; omega)⟩
  rcases hr with rfl | ⟨_, h⟩
  · exact Or.inl (by omega)
  · exact Or.inr h
theorem RdX.stays {w : World} {F : Nat} (hF : w.heap.size + 2 ≤ F) : Stays (F + 2) (F + 3) (RdX w F) := by
  rintro pre A C r ⟨⟨p, x, h1, h2, h3, h4⟩, h5, h6⟩ hg hr
  have hr2 : F + 2 ≤ r := by rcases hr with rfl | ⟨h, _⟩ <;> omega
  exact ⟨⟨p, x, h1, h2, h3, h4.kept hg (by omega)⟩, h5.kept hg (fun e => by cases e; omega), h6.grown hg (fun k e => by cases e; omega)⟩
theorem RdI.gr {w : World} {F : Nat} {pre : List (Int × Dm)} {A C : World} (h : RdI w F pre A) (g : Gr A C) : RdI w F pre C := by
  obtain ⟨h1, ⟨v, D, h2, h3, h4⟩, h5, h6, h7, h8⟩ := h
  exact ⟨h1, ⟨v, D, h2.kept g.grownBy (by simp), h3.gr g, h4⟩, h5.kept g.grownBy (by simp), h6.gr g, Nat.le_trans h7 g.size, h8.trans g⟩
theorem gr_keeps {A C : World} (g : Gr A C) : KeepsOthers A C := KeepsOthers.of_grownBy g.grownBy (fun j o e _ => by cases e)
theorem stps_put {w : World} {ad : Option Addr} {L : List Stp} (h : StpsAt w ad L) {l : Nat} {o : Obj} (ho : w.heap[l]? = some o) (hc : o.isCells = false) (o' : Obj) : StpsAt (w.putObj l o') ad L := by
  intro j u hu
  obtain ⟨b, off, e, hb, h1⟩ := h j u hu
  have hne : b ≠ l := fun e => by
    subst e
    obtain ⟨o2, h2, h3⟩ := cells_of_cell h1
    rw [ho] at h2; cases h2; rw [hc] at h3; cases h3
  exact ⟨b, off, e, by simpa using hb, by rw [← h1]; exact World.cell?_of_block (w := w) (World.putObj_heap_other hne)⟩
theorem two_put {w : World} {g : Nat} {x y : Value} (h : TwoAt w g x y) {l : Nat} {o : Obj} (ho : w.heap[l]? = some o) (hc : o.isCells = false) (o' : Obj) : TwoAt (w.putObj l o') g x y := by
  refine h.kept (grownBy_putObj' w l o') (fun e => ?_)
  subst e
  obtain ⟨o2, h2, h3⟩ := cells_of_cell h.c0
  rw [ho] at h2; cases h2; rw [hc] at h3; cases h3
theorem re_out {w w' : World} {RB : List Bk.Dn} {RE RA z p : Int} {a : Option Addr} {c : Nat} {R : List Dm} (e1 : RE = z) (e2 : RA = p) (e3 : RB = dns R) (hb : Book w' w.heap.size (.slice a R.length c) R) (hg : Gr w w') : ReR w RB RE RA (.returned (.tuple #[.slice a R.length c, .agg #[.int .i64 z, .int .i64 p]])) w' :=
  ⟨a, c, R, by rw [e1, e2], hb, e3.symm, hg⟩
theorem re_none {w w' : World} {RB : List Bk.Dn} {RE RA z p : Int} (e1 : RE = z) (e2 : RA = p) (e3 : RB = []) (hg : Gr w w') : ReR w RB RE RA (.returned (.tuple #[.slice none 0 0, .agg #[.int .i64 z, .int .i64 p]])) w' :=
  ⟨none, 0, [], by rw [e1, e2]; rfl, Book.nil _ _, e3.symm, hg⟩
structure OutR (w A : World) (v : Value) (z p : Int) : Prop where
  c0 : A.cell? ⟨w.heap.size, 0, none⟩ = some v
  c1 : A.cell? ⟨w.heap.size + 1, 0, none⟩ = some (.int .i64 z)
  c2 : A.cell? ⟨w.heap.size + 1, 1, none⟩ = some (.int .i64 p)
theorem fill_out {w A : World} {v : Value} (u : Value) (z p : Int) {x y : Value} (r2 : Boxed A w.heap.size 22 v) (r3 : TwoAt A (w.heap.size + 1) x y) {K : Nat} (hK : A.heap[K]? = some (.deferred (some []))) :
    (((A.setCell ⟨w.heap.size, 0, none⟩ u).setCell ⟨w.heap.size + 1, 0, none⟩ (.int .i64 z)).setCell ⟨w.heap.size + 1, 1, none⟩ (.int .i64 p)).heap[K]? = some (.deferred (some [])) ∧
    OutR w ((((A.setCell ⟨w.heap.size, 0, none⟩ u).setCell ⟨w.heap.size + 1, 0, none⟩ (.int .i64 z)).setCell ⟨w.heap.size + 1, 1, none⟩ (.int .i64 p)).putObj K (.deferred none)) u z p := by
  have k1 : w.heap.size ≠ K := fun e => by subst e; rw [show A.heap[w.heap.size]? = _ from r2] at hK; cases hK
  have k2 : w.heap.size + 1 ≠ K := fun e => by
    obtain ⟨o, ho, hc⟩ := cells_of_cell r3.c0
    rw [show (⟨w.heap.size + 1, 0, none⟩ : Addr).block = K from e, hK] at ho; cases ho; cases hc
  have g1 := grown_set A ⟨w.heap.size, 0, none⟩ u
  have g2 := grown_set (A.setCell ⟨w.heap.size, 0, none⟩ u) ⟨w.heap.size + 1, 0, none⟩ (.int .i64 z)
  have g3 := grown_set ((A.setCell ⟨w.heap.size, 0, none⟩ u).setCell ⟨w.heap.size + 1, 0, none⟩ (.int .i64 z)) ⟨w.heap.size + 1, 1, none⟩ (.int .i64 p)
  have b1 := (((r2.set u).kept g2 (by simp)).kept g3 (by simp))
  have b2 := ((r3.setFar ⟨w.heap.size, 0, none⟩ u (by simp)).set0 (.int .i64 z)).set1 (.int .i64 p)
  have hKl := (Array.getElem?_eq_some_iff.1 hK).1
  have h1 := (g1.block K hKl (fun e => k1 (by cases e; rfl))).trans hK
  have h2 := (g2.block K (by simpa using hKl) (fun e => k2 (by cases e; rfl))).trans h1
  have h3 := (g3.block K (by simpa using hKl) (fun e => k2 (by cases e; rfl))).trans h2
  have b3 := two_put b2 h3 rfl (.deferred none)
  exact ⟨h3, (b1.kept (grownBy_putObj' _ K (.deferred none)) (fun e => k1 (by cases e; rfl))).cell, b3.c0, b3.c1⟩
theorem fill_drew {w X : World} {K : Nat} {u : Value} {z p : Int} (h : X.heap[K]? = some (.deferred (some [])) ∧ OutR w (X.putObj K (.deferred none)) u z p) : X.drew.heap[K]? = some (.deferred (some [])) ∧ OutR w (X.drew.putObj K (.deferred none)) u z p := ⟨h.1, h.2.1, h.2.2, h.2.3⟩
set_option maxRecDepth 100000 in
set_option maxHeartbeats 8000000 in
theorem read_any (s : ByteArray) (w : World) (hs : s.size ≤ 9223372036854775807) :
    Calls Tryz.prog 8 #[.string s] w fun e w' => ReR w (Bk.rD s.data.toList) (Bk.rE s.data.toList) (Bk.rA s.data.toList) e w' := by
  have hl : s.data.toList.length = s.size := by simp
  have HS : Hid (∀ w' : World, CallsIn Fence.wide 2 Tryz.prog 20 #[.string s] w' fun e w2 => ∃ ad cap, e = .returned (.tuple #[.slice ad (scT s.data.toList).length cap, .agg #[.int .i64 (scF s.data.toList), .int .i64 (scA s.data.toList)]]) ∧ (scT s.data.toList).length ≤ cap ∧ ToksAt w2 ad (scT s.data.toList) ∧ (∀ a, ad = some a → w'.heap.size ≤ a.block) ∧ Gr w' w2) := fun w' => callsIn_wide.2 (Scan_any s w')
  have hTl := Lex.scT_len s.data.toList
  have hTz := scT_size s.data.toList (by omega)
  have hmx : Tryz.prog.follows .mixedOrders = true := by kernel_rfl
  have R2 := (Boxed.new w 22 (.slice none 0 0)).alloc (.cells #[.int .i64 0, .int .i64 0] 31)
  have R3 := TwoAt.new (w.alloc (.cells #[.slice none 0 0] 22)) (.int .i64 0) (.int .i64 0) 31 (w.heap.size + 1) (by simp)
  have RG : Gr w ((w.alloc (.cells #[.slice none 0 0] 22)).alloc (.cells #[.int .i64 0, .int .i64 0] 31)) := (Gr.refl w).alloc.alloc
  have RS : ((w.alloc (.cells #[.slice none 0 0] 22)).alloc (.cells #[.int .i64 0, .int .i64 0] 31)).heap.size = w.heap.size + 2 := by simp
  obtain ⟨Wa, hWa⟩ : ∃ Wa, Wa = (w.alloc (.cells #[.slice none 0 0] 22)).alloc (.cells #[.int .i64 0, .int .i64 0] 31) := ⟨_, rfl⟩
  rw [← hWa] at R2 R3 RG RS
  refine (callsIn_wide (n := 3)).1 ?_
  refine callsIn_of_wp_marks Tryz.func8 rfl trivial ?_ rfl
  simp only [Tryz.ntmps8, List.size_toArray, List.length_cons, List.length_nil, Nat.reduceAdd, Nat.reduceSub, Array.replicate_succ, Array.replicate_zero, List.push_toArray, List.append_toArray, List.nil_append, List.cons_append]
  by_cases hF : scF s.data.toList = 0
  · have h80 := ck_scan hF
    have HRE : Hid (Bk.rE s.data.toList = (Bk.RD (scT s.data.toList) 0 []).1) := by show _ = _; unfold Bk.rE; rw [if_neg (by rw [hF]; decide)]
    have HRA : Hid (Bk.rA s.data.toList = (Bk.RD (scT s.data.toList) 0 []).2.1) := by show _ = _; unfold Bk.rA; rw [if_neg (by rw [hF]; decide)]
    have HRD : Hid (Bk.rD s.data.toList = (Bk.RD (scT s.data.toList) 0 []).2.2) := by show _ = _; unfold Bk.rD; rw [if_neg (by rw [hF]; decide)]
    rw [hF] at HS
    generalize scT s.data.toList = T at *
    generalize scA s.data.toList = SA at *
    generalize Bk.rE s.data.toList = RE at *
    generalize Bk.rA s.data.toList = RA at *
    generalize Bk.rD s.data.toList = RB at *
    clear hF
    gi_wp2_with fail
    rw [← hWa]
    refine ⟨trivial, (HS.out _).mono ?_⟩
    rintro e w1 ⟨adT, capT, rfl, hcT, hTok, hTn, hg1⟩
    gi_wp2
    obtain ⟨W0, hW0⟩ : ∃ W0, W0 = ((w1.alloc (.cells #[.int .i64 0, .int .i64 SA] 31)).alloc (.cells #[.slice none 0 0] 22)).alloc (.cells #[.slice adT T.length capT, .int .i64 0, .int .i64 0] 61) := ⟨_, rfl⟩
    have hF2 : w.heap.size + 2 ≤ w1.heap.size := by have := hg1.size; omega
    have hsz0 : W0.heap.size = w1.heap.size + 3 := by rw [hW0]; simp
    have hg0 : Gr w1 W0 := by rw [hW0]; exact (Gr.refl w1).alloc.alloc.alloc
    have bL : Boxed W0 (w1.heap.size + 1) 22 (.slice none 0 0) := by
      have := Boxed.new (w1.alloc (.cells #[.int .i64 0, .int .i64 SA] 31)) 22 (.slice none 0 0)
      rw [World.size_alloc] at this
      rw [hW0]; exact this.alloc _
    have hsrc : SrcAt (w1.heap.size + 2) adT T capT 0 0 W0 := by
      have := BoxAt.new ((w1.alloc (.cells #[.int .i64 0, .int .i64 SA] 31)).alloc (.cells #[.slice none 0 0] 22)) (.slice adT T.length capT) (.int .i64 0) (.int .i64 0) 61 (w1.heap.size + 2) (by simp)
      rw [← hW0] at this
      exact ⟨this.c0, this.c1, this.c2, this.f1, this.f2, this.lt, hTok.gr hg0, fun a e => by obtain ⟨tb, off, e', hb, _⟩ := hTok 0 (Df.gd_of h80).pos; rw [e] at e'; cases e'; exact ⟨by simp; omega, by rw [hsz0]; simp; omega⟩⟩
    have hI0 : RdI w w1.heap.size [] W0 := ⟨rfl, ⟨_, [], bL, Book.nil _ _, rfl⟩, (R2.kept hg1.grownBy (by simp)).kept hg0.grownBy (by simp), (R3.gr hg1).gr hg0, by omega, (RG.trans hg1).trans hg0⟩
    rw [← hW0]
    clear hW0
    refine range_by rfl (by omega) (gf := 21) (fst := #[.pointer (some ⟨w1.heap.size + 1 + 1, 0, none⟩)]) (lb := #[]) rfl trivial (enters_of Tryz.func21 (by kernel_rfl) rfl)
      (defs_in 2 (by omega) (w1.heap.size + 2) adT T capT h80 hcT (by omega) hTz) (by omega)
      (fun A l o o' _ ho hc h => h.put ho hc o') ?hS (fun _ => rfl) (RdI w w1.heap.size) (RdX w w1.heap.size) (by rw [hsz0]; exact RdI.stays hF2) (by rw [hsz0]; exact RdX.stays hF2)
      hI0 hsrc (fun A g h => h.gr g) (fun s A C h g => h.gr g)
      (fun x a' A => ∃ Bx, w1.heap.size + 3 ≤ Bx ∧ TwoAt A Bx (.string x.2.nm) (.slice x.2.ad x.2.L.length x.2.cap) ∧ StpsAt A x.2.ad x.2.L ∧ inD x.2 ∧ a' = { tmps := #[.string s, undef, .pointer (some ⟨w.heap.size, 0, none⟩), .pointer (some ⟨w.heap.size + 1, 0, none⟩), .slice adT T.length capT, .pointer (some ⟨w1.heap.size, 0, none⟩), .pointer (some ⟨w1.heap.size + 1, 0, none⟩), .pointer (some ⟨w1.heap.size + 1 + 1, 0, none⟩), .int .i64 x.1, .pointer (some ⟨Bx, 0, none⟩), undef, .tuple #[.slice adT T.length capT, .agg #[.int .i64 0, .int .i64 SA]], .string s, .tuple #[.slice adT T.length capT, .agg #[.int .i64 0, .int .i64 SA]], .slice adT T.length capT, .agg #[.int .i64 0, .int .i64 SA], .pointer (some ⟨w1.heap.size, 0, none⟩), .int .i64 0, .bool false, undef, .slice adT T.length capT, .agg #[.slice adT T.length capT, .int .i64 0, .int .i64 0], .func (.func 21) #[.pointer (some ⟨w1.heap.size + 1 + 1, 0, none⟩)] #[], .int .i64 x.1, .agg #[.string x.2.nm, .slice x.2.ad x.2.L.length x.2.cap], undef, undef, undef, undef, undef, undef, undef, undef, undef, undef, undef, undef, undef, undef, undef, undef, undef, undef, undef], defers := [] }) ?hAx ?assign ?body ?done ?stop
    case hS =>
      rintro xs A l o o' _ ho hc ⟨j, h1, e, p, h2, h3⟩
      exact ⟨j, h1, e, p, h2.put ho hc o', h3⟩
    case hAx =>
      rintro x a' A l o o' _ ho hc ⟨Bx, h1, h2, h3, h4, h5⟩
      exact ⟨Bx, h1, two_put h2 ho hc o', stps_put h3 ho hc o', h4, h5⟩
    case assign =>
      intro l pre x A K hi hsr hx hsz hK
      gi_wp2
      exact hK _ _ ((KeepsOthers.alloc _ _).from _) (hsr.gr (Gr.refl _).alloc) (hi.gr (Gr.refl _).alloc) ⟨A.heap.size, by rw [hsz0] at hsz; exact hsz, TwoAt.new _ _ _ _ _ rfl, hx.1.gr (Gr.refl _).alloc, hx.2, rfl⟩
    case body =>
      rintro l pre x a' A hszA ⟨ok, ⟨v, D, hv, hbk, hdD⟩, r2, r3, sz, g⟩ hsr ⟨Bx, hBx, hbx, hst, hin, rfl⟩ hlen
      have hmay : Bk.mayB (dns D) = true := by rw [hdD]; exact Bk.add_may _ _ Bk.may_nil ok
      have hcl : ∀ b o, v.ownBlock = some b → A.heap[b]? = some o → o.isCells = true := by
        intro b o e ho
        obtain ⟨_, ⟨rfl, _⟩ | ⟨b', cap', cur, rfl, _, hh, _⟩⟩ := hbk.own
        · simp [Value.ownBlock] at e
        · simp [Value.ownBlock] at e; subst e
          rw [hh] at ho; cases ho; rfl
      obtain ⟨ad, cap, rfl, _⟩ := hbk.at
      have HP : Hid (CallsIn Fence.wide 0 Tryz.prog 22 #[.slice ad D.length cap, .agg #[.string x.2.nm, .slice x.2.ad x.2.L.length x.2.cap]] A fun e w' => PuR A (w1.heap.size + 3) (.slice ad D.length cap) (dns D) x.2.dn e w') := callsIn_wide.2 (put_any D x.2 ad cap (w1.heap.size + 3) A hbk hmay hst hin (by omega))
      have hq : ∀ b, (Value.slice ad D.length cap).ownBlock = some b → w1.heap.size + 3 ≤ b := fun b e => (hbk.own.lt b e).1
      have hcell := hv.cell
      obtain ⟨b0, b1, _, _, _⟩ := hbx
      gi_wp2_with fail
      refine ⟨trivial, (CallsIn.inRound l HP.out).mono ?_⟩
      rintro e W2 (⟨hp, rfl, hg2⟩ | ⟨hp, a2, c2, R2, rfl, hbk2, hd2, hgr2⟩)
      · have hv2 := hv.kept hg2.grownBy (by simp)
        have r22 := r2.kept hg2.grownBy (by simp)
        have r32 := r3.gr hg2
        have hpn : (Bk.putE (dns D) x.2.dn == 0) = false := by simpa using hp
        have hv3 := hv2.set (.slice none 0 0)
        have r23 := r22.other (B' := w1.heap.size + 1) (by omega) (.slice none 0 0)
        have r33 := r32.setFar ⟨w1.heap.size + 1, 0, none⟩ (.slice none 0 0) (by simp; omega)
        have r24 := r23.set (.slice none 0 0)
        have r34 := r33.setFar ⟨w.heap.size, 0, none⟩ (.slice none 0 0) (by simp)
        have hvc := hv2.cell
        have hvf := hv2.frozen
        have q1 := r23.cell
        have q2 := r23.frozen
        have r35 := (r34.set0 (.int .i64 (Bk.putE (dns D) x.2.dn))).set1 (.int .i64 x.1)
        have r25 := (r24.kept (grown_set _ ⟨w.heap.size + 1, 0, none⟩ (.int .i64 (Bk.putE (dns D) x.2.dn))) (by simp)).kept (grown_set _ ⟨w.heap.size + 1, 1, none⟩ (.int .i64 x.1)) (by simp)
        have hgf := ((((g.trans hg2).set ⟨w1.heap.size + 1, 0, none⟩ (by simp; omega) (.slice none 0 0)).set ⟨w.heap.size, 0, none⟩ (by simp) (.slice none 0 0)).set ⟨w.heap.size + 1, 0, none⟩ (by simp) (.int .i64 (Bk.putE (dns D) x.2.dn))).set ⟨w.heap.size + 1, 1, none⟩ (by simp) (.int .i64 x.1)
        have hkf := ((((gr_keeps hg2).trans (KeepsOthers.setCell _ ⟨w1.heap.size + 1, 0, none⟩ (.slice none 0 0))).trans (KeepsOthers.setCell _ ⟨w.heap.size, 0, none⟩ (.slice none 0 0))).trans (KeepsOthers.setCell _ ⟨w.heap.size + 1, 0, none⟩ (.int .i64 (Bk.putE (dns D) x.2.dn)))).trans (KeepsOthers.setCell _ ⟨w.heap.size + 1, 1, none⟩ (.int .i64 x.1))
        obtain ⟨q3, q4, q5, q6, q7⟩ := r34
        have HX : Hid (RdX w w1.heap.size (pre ++ [x]) _) := ⟨⟨pre, x, rfl, ok, by rw [← hdD]; exact hp, by rw [← hdD]; exact r35⟩, r25, hgf⟩
        have HKF := Lib.hid hkf
        clear hkf hgf r35 r25 r24 r33 hv3 ok hdD hbk hmay hsr hst
        gi_wp2
        exact ⟨HKF.out.from _, HX.out⟩
      · have hne : ∀ b, b < w1.heap.size + 3 → some b ≠ (Value.slice ad D.length cap).ownBlock := fun b hb e => by have := hq b e.symm; omega
        have hv2 := hv.kept hgr2 (hne _ (by omega))
        have r22 := r2.kept hgr2 (hne _ (by omega))
        have r32 := r3.grown hgr2 (hne _ (by omega))
        have hsr2 := hsr.kept hgr2 (hne _ (by omega)) (fun _ a e => hne _ (by obtain ⟨tb, off, e', hb, _⟩ := hTok 0 (Df.gd_of h80).pos; rw [e] at e'; cases e'; simp; omega))
        have hv3 := hv2.set (.slice a2 R2.length c2)
        have hvc := hv2.cell
        have hvf := hv2.frozen
        have r23 := r22.other (B' := w1.heap.size + 1) (by omega) (.slice a2 R2.length c2)
        have r33 := r32.setFar ⟨w1.heap.size + 1, 0, none⟩ (.slice a2 R2.length c2) (by simp; omega)
        have hbk3 := hbk2.kept (grown_set W2 ⟨w1.heap.size + 1, 0, none⟩ (.slice a2 R2.length c2)) (Or.inl (by simp))
        have hsr3 := hsr2.kept (grown_set W2 ⟨w1.heap.size + 1, 0, none⟩ (.slice a2 R2.length c2)) (by simp) (fun _ a e => by obtain ⟨tb, off, e', hb, _⟩ := hTok 0 (Df.gd_of h80).pos; rw [e] at e'; cases e'; simp; omega)
        have hgf := (g.grown hgr2 (fun b e => by have := hq b e; omega)).set ⟨w1.heap.size + 1, 0, none⟩ (by simp; omega) (.slice a2 R2.length c2)
        have hkf := (KeepsOthers.of_grownBy hgr2 (fun j o e ho => hcl j o e ho)).trans (KeepsOthers.setCell _ ⟨w1.heap.size + 1, 0, none⟩ (.slice a2 R2.length c2))
        have hadd := Bk.add_snoc (pre.map (fun x => x.2.dn)) [] x.2.dn ok
        rw [← hdD] at hadd
        rw [hp] at hadd
        have HX : Hid (RdI w w1.heap.size (pre ++ [x]) _) := ⟨by rw [List.map_append]; exact hadd.1, ⟨_, R2, hv3, hbk3, by rw [List.map_append]; exact hd2.trans (hadd.2 rfl).symm⟩, r23, r33, by have := hgr2.size; simp; omega, hgf⟩
        have HKF := Lib.hid hkf
        have HSR := Lib.hid hsr3
        clear hkf hgf hadd r23 r33 hv3 ok hdD hbk hmay hsr hst hbk2 hbk3 hsr2 hsr3
        gi_wp2
        exact ⟨HKF.out.from _, HSR.out, HX.out⟩
    case done =>
      rintro xs A ⟨j, hgo, e, p, hsr, hcase⟩ ⟨ok, ⟨v, D, hv, hbk, hdD⟩, r2, r3, sz, g⟩ hK
      obtain ⟨K, hKe⟩ : ∃ K, K = W0.heap.size := ⟨_, rfl⟩
      rw [← hKe] at hK ⊢
      have hKw : w.heap.size ≤ K := by omega
      clear hsz0 hKe
      obtain ⟨hjl, _⟩ := Bk.goes_lt h80 _ _ _ (Df.gd_of h80).pos hgo
      have hmm : (xs.map xdn).map (·.2) = xs.map (fun x => x.2.dn) := by simp [xdn]
      have hRD := Bk.goes_RD h80 _ _ _ [] hgo (by rw [hmm]; exact ok)
      rw [hmm, ← hdD] at hRD
      obtain ⟨s0, s1, s2, _⟩ := hsr
      have hvc := hv.cell
      have q1 := r2.cell
      have q2 := r2.frozen
      have r3x := r3
      obtain ⟨q3, q4, q5, q6, q7⟩ := r3x
      rcases hcase with ⟨hk, rfl⟩ | ⟨hk, he, rfl, rfl⟩
      · rw [Bk.RD_end hjl _ hk] at hRD
        obtain ⟨ad, cap, rfl, _⟩ := hbk.at
        obtain ⟨hK3, o0, o1, o2⟩ := fill_out (.slice ad D.length cap) 0 0 r2 r3 hK
        have hb3 := ((((hbk.kept (grown_set A ⟨w.heap.size, 0, none⟩ (.slice ad D.length cap)) (Or.inl (by simp; omega))).kept (grown_set _ ⟨w.heap.size + 1, 0, none⟩ (.int .i64 0)) (Or.inl (by simp; omega))).kept (grown_set _ ⟨w.heap.size + 1, 1, none⟩ (.int .i64 0)) (Or.inl (by simp; omega))).kept (grownBy_putObj' _ K (.deferred none)) (Or.inr ⟨_, hK3, rfl⟩)).low (by omega : w.heap.size ≤ w1.heap.size + 3)
        have hg3 := (((g.set ⟨w.heap.size, 0, none⟩ (by simp) (.slice ad D.length cap)).set ⟨w.heap.size + 1, 0, none⟩ (by simp) (.int .i64 0)).set ⟨w.heap.size + 1, 1, none⟩ (by simp) (.int .i64 0)).grown (grownBy_putObj' _ K (.deferred none)) (fun k e => by have := Option.some.inj e; omega)
        have e1 := HRE.out
        have e2 := HRA.out
        have e3 := HRD.out
        rw [hRD] at e1 e2 e3
        have HF := Lib.hid (re_out e1 e2 e3 hb3 hg3)
        clear e1 e2 e3
        clear hb3 hg3 hRD hmm hgo
        gi_wp2
        refine ⟨by simp, .inl ⟨_, _, rfl, run_takeDeferred hK3, ?_⟩⟩
        exact ⟨_, by simp [results, Tryz.results8, go_sem, o0, o1, o2], HF.out⟩
      · rw [Bk.RD_bad hjl _ hk he] at hRD
        have hen : (pE T j == 0) = false := by simpa using he
        obtain ⟨hK3, o0, o1, o2⟩ := fill_drew (fill_out (.slice none 0 0) (pE T j) (pA T j) r2 r3 hK)
        have hg3 := (((g.set ⟨w.heap.size, 0, none⟩ (by simp) (.slice none 0 0)).set ⟨w.heap.size + 1, 0, none⟩ (by simp) (.int .i64 (pE T j))).set ⟨w.heap.size + 1, 1, none⟩ (by simp) (.int .i64 (pA T j))).drew.grown (grownBy_putObj' _ K (.deferred none)) (fun k e => by have := Option.some.inj e; omega)
        have e1 := HRE.out
        have e2 := HRA.out
        have e3 := HRD.out
        rw [hRD] at e1 e2 e3
        have HF := Lib.hid (re_none e1 e2 e3 hg3)
        clear e1 e2 e3
        clear hg3 hRD hmm hgo
        gi_wp2
        refine Code.wpIn_mono NoPanic.imp ?_
        gi_region_with_o (fail)
        all_goals refine NoPanic.normal ?_
        all_goals gi_wp2
        all_goals refine ⟨by simp, .inl ⟨_, _, rfl, run_takeDeferred hK3, ?_⟩⟩
        all_goals exact ⟨_, by simp [results, Tryz.results8, go_sem, o0, o1, o2], HF.out⟩
    case stop =>
      rintro pre A ⟨j, hgo⟩ ⟨⟨p, x, rfl, ok, hp, r3⟩, r2, g⟩ hK
      obtain ⟨K, hKe⟩ : ∃ K, K = W0.heap.size := ⟨_, rfl⟩
      rw [← hKe] at hK ⊢
      have hKw : w.heap.size + 2 ≤ K := by omega
      clear hsz0 hKe
      rw [List.map_append] at hgo
      obtain ⟨k, hgo, hk, he, hx⟩ := Bk.goes_cut _ _ _ _ hgo
      obtain ⟨hjl, _⟩ := Bk.goes_lt h80 _ _ _ (Df.gd_of h80).pos hgo
      have hmm : (p.map xdn).map (·.2) = p.map (fun x => x.2.dn) := by simp [xdn]
      have hRD := Bk.goes_RD h80 _ _ _ [] hgo (by rw [hmm]; exact ok)
      rw [hmm] at hRD
      have hx1 : x.1 = (tk T k).p := congrArg Prod.fst hx
      have hx2 : x.2.dn = Bk.dnA T k := congrArg Prod.snd hx
      rw [hx1, hx2] at r3
      rw [hx2] at hp
      rw [Bk.RD_no hjl _ hk he hp] at hRD
      generalize Bk.putE (Bk.addD [] (p.map (fun x => x.2.dn))) (Bk.dnA T k) = Z at *
      have o0 := (r2.kept (grownBy_putObj' A K (.deferred none)) (fun e => by have := Option.some.inj e; omega)).cell
      have r3x := two_put r3 hK rfl (.deferred none)
      have o1 := r3x.c0
      have o2 := r3x.c1
      have e1 := HRE.out
      have e2 := HRA.out
      have e3 := HRD.out
      rw [hRD] at e1 e2 e3
      have HF := Lib.hid (re_none e1 e2 e3 (g.grown (grownBy_putObj' _ K (.deferred none)) (fun k e => by have := Option.some.inj e; omega)))
      clear e1 e2 e3
      gi_wp2
      refine ⟨by simp, .inl ⟨_, _, rfl, run_takeDeferred hK, ?_⟩⟩
      exact ⟨_, by simp [results, Tryz.results8, go_sem, o0, o1, o2], HF.out⟩
  · have hFn : (scF s.data.toList == 0) = false := by simpa using hF
    have HRE : Hid (Bk.rE s.data.toList = scF s.data.toList) := by show _ = _; unfold Bk.rE; rw [if_pos hF]
    have HRA : Hid (Bk.rA s.data.toList = scA s.data.toList) := by show _ = _; unfold Bk.rA; rw [if_pos hF]
    have HRD : Hid (Bk.rD s.data.toList = []) := by show _ = _; unfold Bk.rD; rw [if_pos hF]
    generalize scT s.data.toList = T at *
    generalize scA s.data.toList = SA at *
    generalize scF s.data.toList = SF at *
    generalize Bk.rE s.data.toList = RE at *
    generalize Bk.rA s.data.toList = RA at *
    generalize Bk.rD s.data.toList = RB at *
    clear hF
    gi_wp2_with fail
    rw [← hWa]
    refine ⟨trivial, (HS.out _).mono ?_⟩
    rintro e w1 ⟨adT, capT, rfl, hcT, hTok, hTn, hg1⟩
    have hF2 : w.heap.size + 2 ≤ w1.heap.size := by have := hg1.size; omega
    have gA : Gr Wa (w1.alloc (.cells #[.int .i64 SF, .int .i64 SA] 31)) := hg1.alloc
    have r2 := R2.kept gA.grownBy (by simp)
    have r3 := R3.gr gA
    have fb := TwoAt.new w1 (.int .i64 SF) (.int .i64 SA) 31 _ rfl
    have f0 := fb.c0
    have f1 := fb.c1
    have q1 := r2.cell
    have q2 := r2.frozen
    have r3x := r3
    obtain ⟨q3, q4, q5, q6, q7⟩ := r3x
    have hg3 := ((((RG.trans gA).set ⟨w.heap.size, 0, none⟩ (by simp) (.slice none 0 0)).set ⟨w.heap.size + 1, 0, none⟩ (by simp) (.int .i64 SF)).set ⟨w.heap.size + 1, 1, none⟩ (by simp) (.int .i64 SA)).drew
    have b2 := (((r3.setFar ⟨w.heap.size, 0, none⟩ (.slice none 0 0) (by simp)).set0 (.int .i64 SF)).set1 (.int .i64 SA)).gr (Gr.refl _).drew
    have o0 := ((((r2.set (.slice none 0 0)).kept (grown_set _ ⟨w.heap.size + 1, 0, none⟩ (.int .i64 SF)) (by simp)).kept (grown_set _ ⟨w.heap.size + 1, 1, none⟩ (.int .i64 SA)) (by simp))).kept (grownBy_drew _ none) (by simp)
    have o0 := o0.cell
    have o1 := b2.c0
    have o2 := b2.c1
    have HF := Lib.hid (re_none HRE.out HRA.out HRD.out hg3)
    clear hg3 b2 r2 r3 gA fb
    gi_wp2
    obtain ⟨Wb, hWb⟩ : ∃ Wb, Wb = w1.alloc (.cells #[.int .i64 SF, .int .i64 SA] 31) := ⟨_, rfl⟩
    rw [← hWb] at f0 f1 q1 q2 q3 q4 q5 q6 q7 o0 o1 o2 HF ⊢
    clear hWb
    refine Code.wpIn_mono NoPanic.imp ?_
    gi_region_with_o (fail)
    all_goals refine NoPanic.normal ?_
    all_goals gi_wp2
    all_goals exact ⟨_, by simp [results, Tryz.results8, go_sem, o0, o1, o2], HF.out⟩
end Go.Proofs.YtfobfpigbfepoaaGreatDoor
namespace Go.Proofs.YtfobfpigbfepoaaGreatDoor
open Go.RowKit
open Df (Stp)
def dnB : Bk.Dn := ⟨⟨#[98]⟩, [⟨1, ⟨#[120]⟩, 1, 0, ⟨#[]⟩, 1, 0⟩]⟩
def dnA1 : Bk.Dn := ⟨⟨#[97]⟩, [⟨0, ⟨#[]⟩, 0, 2, ⟨#[99]⟩, 0, 20⟩]⟩
theorem lt_ba : Bk.lt dnB.nm dnA1.nm = false := by unfold Bk.lt; rw [Bk.toL, Bk.toL]; rfl
theorem ins_ba : Bk.ins [dnB] dnA1 = [dnA1, dnB] := by
  have h : Bk.pos (Bk.nms [dnB]) dnA1.nm = 0 := by
    unfold Bk.pos Bk.nms
    rw [List.map_cons, List.takeWhile_cons, lt_ba]; rfl
  unfold Bk.ins
  rw [h]; rfl
theorem text1D : Bk.rD [115, 97, 103, 97, 32, 98, 32, 123, 32, 100, 101, 98, 105, 116, 32, 120, 32, 49, 59, 32, 125, 32, 115, 97, 103, 97, 32, 97, 32, 123, 32, 97, 115, 107, 32, 50, 32, 99, 59, 32, 125] = [dnA1, dnB] := by
  have hF : Lex.scF [115, 97, 103, 97, 32, 98, 32, 123, 32, 100, 101, 98, 105, 116, 32, 120, 32, 49, 59, 32, 125, 32, 115, 97, 103, 97, 32, 97, 32, 123, 32, 97, 115, 107, 32, 50, 32, 99, 59, 32, 125] = 0 := by rfl
  have h80 := ck_scan hF
  unfold Bk.rD
  rw [if_neg (by rw [hF]; decide)]
  rw [Bk.RD_go h80 [] (i := 0) (show (1 : Int) ≠ 0 by decide) (by rfl) (by rfl)]
  rw [show (Df.pT (Lex.scT [115, 97, 103, 97, 32, 98, 32, 123, 32, 100, 101, 98, 105, 116, 32, 120, 32, 49, 59, 32, 125, 32, 115, 97, 103, 97, 32, 97, 32, 123, 32, 97, 115, 107, 32, 50, 32, 99, 59, 32, 125]) ((0 : Nat) : Int)).toNat = 8 by rfl, show Bk.ins [] (Bk.dnA (Lex.scT [115, 97, 103, 97, 32, 98, 32, 123, 32, 100, 101, 98, 105, 116, 32, 120, 32, 49, 59, 32, 125, 32, 115, 97, 103, 97, 32, 97, 32, 123, 32, 97, 115, 107, 32, 50, 32, 99, 59, 32, 125]) 0) = [dnB] by rfl]
  rw [Bk.RD_go h80 [dnB] (i := 8) (show (1 : Int) ≠ 0 by decide) (by rfl) (by rfl)]
  rw [show (Df.pT (Lex.scT [115, 97, 103, 97, 32, 98, 32, 123, 32, 100, 101, 98, 105, 116, 32, 120, 32, 49, 59, 32, 125, 32, 115, 97, 103, 97, 32, 97, 32, 123, 32, 97, 115, 107, 32, 50, 32, 99, 59, 32, 125]) ((8 : Nat) : Int)).toNat = 16 by rfl, show Bk.dnA (Lex.scT [115, 97, 103, 97, 32, 98, 32, 123, 32, 100, 101, 98, 105, 116, 32, 120, 32, 49, 59, 32, 125, 32, 115, 97, 103, 97, 32, 97, 32, 123, 32, 97, 115, 107, 32, 50, 32, 99, 59, 32, 125]) 8 = dnA1 by rfl, ins_ba]
  rw [Bk.RD_end (by decide) _ (by rfl)]
theorem text1 : Bk.rE [115, 97, 103, 97, 32, 98, 32, 123, 32, 100, 101, 98, 105, 116, 32, 120, 32, 49, 59, 32, 125, 32, 115, 97, 103, 97, 32, 97, 32, 123, 32, 97, 115, 107, 32, 50, 32, 99, 59, 32, 125] = 0 ∧ Bk.rA [115, 97, 103, 97, 32, 98, 32, 123, 32, 100, 101, 98, 105, 116, 32, 120, 32, 49, 59, 32, 125, 32, 115, 97, 103, 97, 32, 97, 32, 123, 32, 97, 115, 107, 32, 50, 32, 99, 59, 32, 125] = 0 := ⟨by rfl, by rfl⟩
theorem text2 : Bk.rE [115, 97, 103, 97, 32, 98, 32, 123, 32, 100, 101, 98, 105, 116, 32, 120, 32, 49, 59, 32, 125, 32, 115, 97, 103, 97, 32, 98, 32, 123, 32, 97, 115, 107, 32, 50, 32, 99, 59, 32, 125] = 71 ∧ Bk.rA [115, 97, 103, 97, 32, 98, 32, 123, 32, 100, 101, 98, 105, 116, 32, 120, 32, 49, 59, 32, 125, 32, 115, 97, 103, 97, 32, 98, 32, 123, 32, 97, 115, 107, 32, 50, 32, 99, 59, 32, 125] = 22 ∧ Bk.rD [115, 97, 103, 97, 32, 98, 32, 123, 32, 100, 101, 98, 105, 116, 32, 120, 32, 49, 59, 32, 125, 32, 115, 97, 103, 97, 32, 98, 32, 123, 32, 97, 115, 107, 32, 50, 32, 99, 59, 32, 125] = [] := ⟨by rfl, by rfl, by rfl⟩
theorem may10 : Bk.mayB [dnA1, dnB] = true := by
  have := Bk.rD_may [115, 97, 103, 97, 32, 98, 32, 123, 32, 100, 101, 98, 105, 116, 32, 120, 32, 49, 59, 32, 125, 32, 115, 97, 103, 97, 32, 97, 32, 123, 32, 97, 115, 107, 32, 50, 32, 99, 59, 32, 125]
  rw [text1D] at this; exact this
theorem found1 : Bk.fnd [dnA1, dnB] ⟨#[98]⟩ = dnB ∧ Bk.fndB [dnA1, dnB] ⟨#[98]⟩ = true := Bk.fnd_at may10 1 (by decide)
theorem added1 : AdE [dnA1, dnB] [dnB] = 71 ∧ AdD [dnA1, dnB] [dnB] = [] := by
  unfold AdE AdD
  rw [if_pos may10, if_pos may10]
  exact ⟨by rfl, by rfl⟩
theorem none1 : Bk.mayE [⟨⟨#[]⟩, []⟩] = 2 := by rfl
theorem in_dnB (a : Option Addr) (c : Nat) : inD ⟨dnB.nm, a, c, dnB.L⟩ := by
  refine ⟨show dnB.nm.size ≤ 9223372036854775807 by decide, show dnB.L.length ≤ 9223372036854775807 by decide, fun s hs => ?_⟩
  have hok : Bk.okB dnB = true := by rfl
  exact stp_rng (((Df.def_iff _ _).1 hok).2.2.2 s hs)
theorem row_one (w : World) (xn : ByteArray) (xa : Option Addr) (xc : Nat) (xl : List Stp) (t : TypeId) : RowAt dmC (w.alloc (.cells #[.string xn, .slice xa xl.length xc] t)) (some ⟨w.heap.size, 0, none⟩) [(⟨xn, xa, xc, xl⟩ : Dm)] := by
  intro j u hu
  refine ⟨w.heap.size, 0, rfl, by simp, ?_⟩
  rw [Nat.zero_add, cell_of_row _ w.heap.size j _ _ _ (heap_alloc_new w _)]
  simpa [dmC] using hu
set_option maxHeartbeats 8000000 in
set_option maxRecDepth 100000 in
theorem awake10_any (w : World) : Calls Tryz.prog 5 #[] w fun e w' => e = .returned (.bool true) ∧ Gr w w' := by
  have H1 : Hid (∀ w', Calls Tryz.prog 8 #[.string ⟨#[115, 97, 103, 97, 32, 98, 32, 123, 32, 100, 101, 98, 105, 116, 32, 120, 32, 49, 59, 32, 125, 32, 115, 97, 103, 97, 32, 97, 32, 123, 32, 97, 115, 107, 32, 50, 32, 99, 59, 32, 125]⟩] w' fun e w2 => ReR w' [dnA1, dnB] 0 0 e w2) := by
    intro w'
    have := read_any ⟨#[115, 97, 103, 97, 32, 98, 32, 123, 32, 100, 101, 98, 105, 116, 32, 120, 32, 49, 59, 32, 125, 32, 115, 97, 103, 97, 32, 97, 32, 123, 32, 97, 115, 107, 32, 50, 32, 99, 59, 32, 125]⟩ w' (by decide)
    rw [show (⟨#[115, 97, 103, 97, 32, 98, 32, 123, 32, 100, 101, 98, 105, 116, 32, 120, 32, 49, 59, 32, 125, 32, 115, 97, 103, 97, 32, 97, 32, 123, 32, 97, 115, 107, 32, 50, 32, 99, 59, 32, 125]⟩ : ByteArray).data.toList = [115, 97, 103, 97, 32, 98, 32, 123, 32, 100, 101, 98, 105, 116, 32, 120, 32, 49, 59, 32, 125, 32, 115, 97, 103, 97, 32, 97, 32, 123, 32, 97, 115, 107, 32, 50, 32, 99, 59, 32, 125] from rfl, text1.1, text1.2, text1D] at this
    exact this
  have H2 : Hid (∀ w', Calls Tryz.prog 8 #[.string ⟨#[115, 97, 103, 97, 32, 98, 32, 123, 32, 100, 101, 98, 105, 116, 32, 120, 32, 49, 59, 32, 125, 32, 115, 97, 103, 97, 32, 98, 32, 123, 32, 97, 115, 107, 32, 50, 32, 99, 59, 32, 125]⟩] w' fun e w2 => ReR w' [] 71 22 e w2) := by
    intro w'
    have := read_any ⟨#[115, 97, 103, 97, 32, 98, 32, 123, 32, 100, 101, 98, 105, 116, 32, 120, 32, 49, 59, 32, 125, 32, 115, 97, 103, 97, 32, 98, 32, 123, 32, 97, 115, 107, 32, 50, 32, 99, 59, 32, 125]⟩ w' (by decide)
    rw [show (⟨#[115, 97, 103, 97, 32, 98, 32, 123, 32, 100, 101, 98, 105, 116, 32, 120, 32, 49, 59, 32, 125, 32, 115, 97, 103, 97, 32, 98, 32, 123, 32, 97, 115, 107, 32, 50, 32, 99, 59, 32, 125]⟩ : ByteArray).data.toList = [115, 97, 103, 97, 32, 98, 32, 123, 32, 100, 101, 98, 105, 116, 32, 120, 32, 49, 59, 32, 125, 32, 115, 97, 103, 97, 32, 98, 32, 123, 32, 97, 115, 107, 32, 50, 32, 99, 59, 32, 125] from rfl, text2.1, text2.2.1, text2.2.2] at this
    exact this
  go_enter Tryz.func5, Tryz.ntmps5
  go_wp2_with fail
  refine (H1.out _).mono ?_
  rintro e w1 ⟨a, c, R, rfl, hbk, hR, hg1⟩
  obtain ⟨ad1, cap1, e1, _, _, hB1, _⟩ := hbk.at
  cases e1
  have hlen : R.length = 2 := by have := dns_len R; rw [hR] at this; exact this.symm
  match R, hlen with
  | [x, y], _ =>
  have hx : x.dn = dnA1 := by have := hR; simp [dns] at this; exact this.1
  have hy : y.dn = dnB := by have := hR; simp [dns] at this; exact this.2
  have HB1 := Lib.hid hB1
  have HG1 : Hid (Gr w w1) := hg1
  have HF1 := Lib.hid (TwoAt.new w1 (.int .i64 0) (.int .i64 0) 31 _ rfl)
  have HGa : Hid (Gr w1 (w1.alloc (.cells #[.int .i64 0, .int .i64 0] 31))) := (Gr.refl w1).alloc
  clear hbk hB1 hg1
  have HFi : Hid (∀ w', Gr w1 w' → Calls Tryz.prog 11 #[.slice a 2 c, .string ⟨#[98]⟩] w' fun e w2 => ∃ a' c', e = .returned (.tuple #[.agg #[.string ⟨#[98]⟩, .slice a' 1 c'], .bool true]) ∧ StpsAt w2 a' dnB.L ∧ Gr w' w2) := by
    intro w' g
    have := find_any [x, y] ⟨#[98]⟩ a c w' (HB1.out.gr g) (by simp)
    rw [hR, found1.1, found1.2] at this
    exact this
  have HAd : Hid (∀ (a2 : Option Addr) (c2 b : Nat) w', Gr w1 w' → RowAt dmC w' (some ⟨b, 0, none⟩) [(⟨⟨#[98]⟩, a2, c2, dnB.L⟩ : Dm)] → StpsAt w' a2 dnB.L → Calls Tryz.prog 12 #[.slice a 2 c, .slice (some ⟨b, 0, none⟩) 1 1] w' fun e w2 => ∃ a' c', e = .returned (.tuple #[.slice a' 0 c', .int .i64 71]) ∧ Gr w' w2) := by
    intro a2 c2 b w' g hrow hst
    have := add_any [x, y] [(⟨⟨#[98]⟩, a2, c2, dnB.L⟩ : Dm)] a c (some ⟨b, 0, none⟩) 1 w' (HB1.out.gr g) ⟨hrow, fun d hd => by rw [List.mem_singleton] at hd; subst hd; exact hst, fun d hd => by rw [List.mem_singleton] at hd; subst hd; exact in_dnB a2 c2⟩ (by simp) (by simp)
    rw [hR, show dns [(⟨⟨#[98]⟩, a2, c2, dnB.L⟩ : Dm)] = [dnB] from rfl, added1.1, added1.2] at this
    refine this.mono ?_
    rintro e w2 ⟨a', c', R', rfl, _, hR', hg⟩
    have : R' = [] := List.map_eq_nil_iff.1 hR'
    subst this
    exact ⟨a', c', rfl, hg⟩
  have HMy : Hid (∀ (b : Nat) w', RowAt dmC w' (some ⟨b, 0, none⟩) [(⟨⟨#[]⟩, none, 0, []⟩ : Dm)] → Calls Tryz.prog 13 #[.slice (some ⟨b, 0, none⟩) 1 1] w' fun e w2 => e = .returned (.int .i64 2) ∧ Gr w' w2) := by
    intro b w' hrow
    have := may_any [(⟨⟨#[]⟩, none, 0, []⟩ : Dm)] (some ⟨b, 0, none⟩) 1 w' ⟨hrow, fun d hd => by rw [List.mem_singleton] at hd; subst hd; exact RowAt.nil, fun d hd => by rw [List.mem_singleton] at hd; subst hd; exact ⟨by show (0 : Nat) ≤ _; omega, by show (0 : Nat) ≤ _; omega, fun s hs => by cases hs⟩⟩ (by simp)
    rw [show dns [(⟨⟨#[]⟩, none, 0, []⟩ : Dm)] = [⟨⟨#[]⟩, []⟩] from rfl, none1] at this
    exact this
  obtain ⟨rb, ro, ra, hrb, n0, _⟩ := DmsAt.at HB1.out.row 0 (by simp)
  have hxn : x.nm = ⟨#[97]⟩ := congrArg Bk.Dn.nm hx
  rw [List.getElem_cons_zero, hxn, Nat.zero_mul, Nat.add_zero] at n0
  subst ra
  have HN0 := Lib.hid n0
  clear n0 hx hy hR hxn H1
  go_wp2_with fail
  refine (HFi.out _ (by repeat (first | exact Gr.refl _ | refine Gr.alloc ?_ | refine Gr.drew ?_ | refine Gr.trans ?_ (by assumption)))).mono ?_
  rintro e w2 ⟨a2, c2, rfl, hst2, hg2⟩
  have gw2 : Gr w1 w2 := (by repeat (first | exact Gr.refl _ | refine Gr.alloc ?_ | refine Gr.drew ?_ | refine Gr.trans ?_ (by assumption)))
  have HF2 := Lib.hid (HF1.out.gr hg2)
  have hd := TwoAt.new w2 (.string ⟨#[98]⟩) (.slice a2 1 c2) 38 _ rfl
  have HD2 := Lib.hid hd
  obtain ⟨d0, d1, _, _, dl⟩ := hd
  have HS2 := Lib.hid hst2
  have HG2 := Lib.hid gw2
  clear hst2 hg2 gw2
  have hrow : RowAt dmC ((w2.alloc (.cells #[.string ⟨#[98]⟩, .slice a2 1 c2] 38)).alloc (.cells #[.string ⟨#[98]⟩, .slice a2 1 c2] 38)) (some ⟨w2.heap.size + 1, 0, none⟩) [(⟨⟨#[98]⟩, a2, c2, dnB.L⟩ : Dm)] := by
    have h := row_one (w2.alloc (.cells #[.string ⟨#[98]⟩, .slice a2 1 c2] 38)) ⟨#[98]⟩ a2 c2 dnB.L 38
    rw [World.size_alloc, show dnB.L.length = 1 from rfl] at h
    exact h
  have hcall := HAd.out a2 c2 (w2.heap.size + 1) _ (HG2.out.alloc.alloc) hrow (HS2.out.alloc.alloc)
  have HCall := Lib.hid hcall
  clear hcall hrow
  go_wp2_with fail
  refine HCall.out.mono ?_
  rintro e w3 ⟨a3, c3, rfl, hg3⟩
  have HG3 : Hid (Gr w1 w3) := (HG2.out.alloc.alloc).trans hg3
  have HG3b := Lib.hid hg3
  have HD3 := Lib.hid ((HD2.out.gr (Gr.refl _).alloc).gr hg3)
  clear hg3 d0 d1 dl
  go_wp2_with fail
  refine (H2.out _).mono ?_
  rintro e w4 ⟨a4, c4, R4, rfl, _, hR4, hg4⟩
  obtain rfl : R4 = [] := List.map_eq_nil_iff.1 hR4
  have HG4 : Hid (Gr w1 w4) := HG3.out.trans hg4
  have HG4w : Hid (Gr w (w4.alloc (.cells #[.int .i64 71, .int .i64 22] 31))) := (HG1.out.trans HG4.out).alloc
  have g4f : Gr w4 (w4.alloc (.cells #[.int .i64 71, .int .i64 22] 31)) := (Gr.refl _).alloc
  obtain ⟨f0, f1, _, _, fl⟩ := (((HF2.out.gr (Gr.refl _).alloc.alloc).gr HG3b.out).gr hg4).gr g4f
  obtain ⟨d0, d1, _, _, dl⟩ := (HD3.out.gr hg4).gr g4f
  have n0 := (HG4.out.trans g4f).keep HN0.out
  obtain ⟨g0, g1, _, _, gl⟩ := TwoAt.new w4 (.int .i64 71) (.int .i64 22) 31 _ rfl
  clear hR4 hg4
  have hrow : RowAt dmC ((w4.alloc (.cells #[.int .i64 71, .int .i64 22] 31)).alloc (.cells #[.string ⟨#[]⟩, .slice none 0 0] 38)) (some ⟨w4.heap.size + 1, 0, none⟩) [(⟨⟨#[]⟩, none, 0, []⟩ : Dm)] := by
    have h := row_one (w4.alloc (.cells #[.int .i64 71, .int .i64 22] 31)) ⟨#[]⟩ none 0 [] 38
    rw [World.size_alloc] at h
    exact h
  have HCall2 := Lib.hid (HMy.out (w4.heap.size + 1) _ hrow)
  clear hrow
  go_wp2_with fail
  refine HCall2.out.mono ?_
  rintro e w5 ⟨rfl, hg5⟩
  have HGF : Hid (Gr w w5) := HG4w.out.alloc.trans hg5
  go_wp2
  go_ret
  exact ⟨rfl, HGF.out⟩
end Go.Proofs.YtfobfpigbfepoaaGreatDoor
namespace Go.Proofs.YtfobfpigbfepoaaGreatDoor
open Go.RowKit
open Df (Stp)
def eqD (n1 : ByteArray) (L : List Stp) (n2 : ByteArray) (M : List Stp) : Bool := decide (n1 = n2) && eqL L M
set_option maxHeartbeats 4000000 in
set_option maxRecDepth 100000 in
theorem refEqual_any (n1 : ByteArray) (L : List Stp) (ad1 : Option Addr) (c1 : Nat) (n2 : ByteArray) (M : List Stp) (ad2 : Option Addr) (c2 : Nat) (w : World) (h1 : StpsAt w ad1 L) (h2 : StpsAt w ad2 M) (hn1 : L.length ≤ 9223372036854775807) :
    Calls Tryz.prog 26 #[.agg #[.string n1, .slice ad1 L.length c1], .agg #[.string n2, .slice ad2 M.length c2]] w fun e w' => e = .returned (.bool (eqD n1 L n2 M)) ∧ Gr w w' := by
  have ht := text_ne n1 n2.data.toList
  rw [Lex.bytes_list, ← show n2.toList = n2.data.toList from ByteArray.toList_eq n2] at ht
  have HX0 := Lib.hid ((TwoAt.new w (.string n1) (.slice ad1 L.length c1) 38 _ rfl).gr (Gr.refl _).alloc (w' := (w.alloc (.cells #[.string n1, .slice ad1 L.length c1] 38)).alloc (.cells #[.string n2, .slice ad2 M.length c2] 38)))
  have HY0 := Lib.hid (TwoAt.new (w.alloc (.cells #[.string n1, .slice ad1 L.length c1] 38)) (.string n2) (.slice ad2 M.length c2) 38 (w.heap.size + 1) (by simp))
  by_cases hq : n1 = n2
  · rw [decide_eq_true hq] at ht
    have ht2 : (n1.toList != n2.toList) = false := ht
    have ht3 : (n1.toList == n2.toList) = true := by simpa using ht2
    have ED : eqD n1 L n2 M = eqL L M := by unfold eqD; rw [decide_eq_true hq]; rfl
    rw [ED]
    clear ht hq ED
    by_cases hl : L.length = M.length
    · have H1 : Hid (StpsAt w ad1 L) := h1
      have H2 : Hid (StpsAt w ad2 M) := h2
      have HL : Hid (L.length = M.length) := hl
      have hl2 : ((L.length : Int) != (M.length : Int)) = false := by simp; omega
      have HY : Hid ((∀ j (h1 : j < L.length) (h2 : j < M.length), eqS L[j] M[j] = true) → eqL L M = true) := eqL_yes hl
      have HN : Hid (∀ j (h1 : j < L.length) (h2 : j < M.length), eqS L[j] M[j] = false → eqL L M = false) := fun j => eqL_no j
      have HG0 : Hid (Gr w ((w.alloc (.cells #[.string n1, .slice ad1 L.length c1] 38)).alloc (.cells #[.string n2, .slice ad2 M.length c2] 38))) := (Gr.refl _).alloc.alloc
      generalize eqL L M = EL at *
      clear h1 h2 hl
      go_enter Tryz.func26, Tryz.ntmps26
      go_wp2
      go_loopw [5] (fun i wr => ∃ k : Nat, k ≤ L.length ∧ i = .int .i64 (k : Int) ∧ Gr w wr ∧ TwoAt wr w.heap.size (.string n1) (.slice ad1 L.length c1) ∧ TwoAt wr (w.heap.size + 1) (.string n2) (.slice ad2 M.length c2) ∧ ∀ j (h1 : j < L.length) (h2 : j < M.length), j < k → eqS L[j] M[j] = true) (fun i _ => L.length - (intOf i).toNat)
      case atStart => exact ⟨0, by omega, rfl, HG0.out, HX0.out, HY0.out, fun j _ _ h => absurd h (by omega)⟩
      case round =>
        obtain ⟨k, hk, rfl, hg, hX, hYb, hA⟩ := hrel
        have HG : Hid (Gr w wr) := hg
        have HXw := Lib.hid hX
        have HYw := Lib.hid hYb
        have HA : Hid (∀ j (h1 : j < L.length) (h2 : j < M.length), j < k → eqS L[j] M[j] = true) := hA
        obtain ⟨u0, u1, _, _, ul⟩ := hX
        obtain ⟨v0, v1, _, _, vl⟩ := hYb
        clear hg hA
        by_cases hlt : k < L.length
        · have hltM : k < M.length := by have := HL.out; omega
          obtain ⟨b, off, rfl, hb, x0, x1, x2, x3, x4, x5, x6⟩ := StpsAt.at (H1.out.gr HG.out) k hlt
          obtain ⟨b', off', rfl, hb', y0, y1, y2, y3, y4, y5, y6⟩ := StpsAt.at (H2.out.gr HG.out) k hltM
          have hne := neq_stp L[k] M[k]
          have HE := HN.out k hlt hltM
          generalize hx : L[k] = x at *
          generalize hy : M[k] = y at *
          obtain ⟨xk, xa, xn, xo, xu, xy, xv⟩ := x
          obtain ⟨yk, ya, yn, yo, yu, yy, yv⟩ := y
          simp only at *
          cases hq : eqS ⟨xk, xa, xn, xo, xu, xy, xv⟩ ⟨yk, ya, yn, yo, yu, yy, yv⟩ with
          | true =>
            rw [hq] at hne
            have HQ : Hid (eqS L[k] M[k] = true) := by show _ = _; rw [hx, hy]; exact hq
            clear hq hx hy HE
            go_wp2
            go_quiet (fail)
            go_wp2
            go_roundw
            case rel => exact ⟨k + 1, by omega, by go_num, HG.out.trans ((Gr.refl _).drewN _), HXw.out.gr ((Gr.refl _).drewN _), HYw.out.gr ((Gr.refl _).drewN _), fun j h1 h2 h => if e : j = k then by subst e; exact HQ.out else HA.out j h1 h2 (by omega)⟩
            case measure => simp [intOf]; omega
          | false =>
            rw [hq] at hne
            have HF : Hid (EL = false) := HE hq
            clear hq hx hy HE
            go_wp2
            go_quiet (fail)
            go_wp2
            go_ret
            exact ⟨by rw [HF.out]; rfl, HG.out.trans ((Gr.refl _).drewN _)⟩
        · obtain rfl : k = L.length := by omega
          have HF : Hid (EL = true) := HY.out (fun j h1 h2 => HA.out j h1 h2 h1)
          go_wp2
          go_ret
          exact ⟨by rw [HF.out]; rfl, HG.out⟩
    · have hl2 : ((L.length : Int) != (M.length : Int)) = true := by simp; omega
      rw [eqL_len hl]
      clear h1 h2 hl
      go_enter Tryz.func26, Tryz.ntmps26
      go_wp2
      go_ret
      exact ⟨rfl, (by repeat (first | exact Gr.refl _ | refine Gr.alloc ?_ | refine Gr.drew ?_ | refine Gr.trans ?_ (by assumption)))⟩
  · rw [decide_eq_false hq] at ht
    have ht2 : (n1.toList != n2.toList) = true := ht
    have ht3 : (n1.toList == n2.toList) = false := by simpa using ht2
    have ED : eqD n1 L n2 M = false := by unfold eqD; rw [decide_eq_false hq]; rfl
    rw [ED]
    clear ht hq ED h1 h2
    go_enter Tryz.func26, Tryz.ntmps26
    go_wp2
    go_ret
    exact ⟨rfl, (by repeat (first | exact Gr.refl _ | refine Gr.alloc ?_ | refine Gr.drew ?_ | refine Gr.trans ?_ (by assumption)))⟩
end Go.Proofs.YtfobfpigbfepoaaGreatDoor
