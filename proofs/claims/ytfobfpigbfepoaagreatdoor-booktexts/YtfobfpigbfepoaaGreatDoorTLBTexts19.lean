/- What the proof is made of, part 19. -/
import Derived.Test.YtfobfpigbfepoaaGreatDoorTLBTexts18
import Derived.Shelf.Strings.Builder1
import Derived.Test.YtfobfpigbfepoaaGreatDoorProg
namespace Go.Proofs
open Go.Shelf
def Tryz.wr_ren : Go.Shelf.Ren := ⟨fun | 166 => 15 | 240 => 32 | 276 => 63 | n => n, fun | 0 => 0 | 3 => 3 | 4 => 4 | 5 => 5 | 9 => 9 | 20 => 20 | 70 => 44 | 72 => 47 | 37 => 45 | 75 => 50 | 80 => 54 | 164 => 112 | n => n, fun | n => n⟩
theorem Tryz.wr_lays : Go.Proofs.Lays.n166 Tryz.prog Tryz.wr_ren := {
  mixed := by kernel_rfl
  f166 := Tryz.func15.trans (congrArg some (by kernel_rfl))
  f240 := Tryz.func32.trans (congrArg some (by kernel_rfl))
  f276 := Tryz.func63.trans (congrArg some (by kernel_rfl))
  t0 := Tryz.underlying0
  a0 := Tryz.isAgg0
  z0 := Tryz.sizeOf0
  v0 := Tryz.zeroValue0
  t3 := Tryz.underlying3
  a3 := Tryz.isAgg3
  z3 := Tryz.sizeOf3
  v3 := Tryz.zeroValue3
  t4 := Tryz.underlying4
  a4 := Tryz.isAgg4
  z4 := Tryz.sizeOf4
  v4 := Tryz.zeroValue4
  t9 := Tryz.underlying9
  a9 := Tryz.isAgg9
  z9 := Tryz.sizeOf9
  v9 := Tryz.zeroValue9
  t20 := Tryz.underlying20
  a20 := Tryz.isAgg20
  z20 := Tryz.sizeOf20
  v20 := Tryz.zeroValue20
  t37 := Tryz.underlying45
  a37 := Tryz.isAgg45
  z37 := Tryz.sizeOf45
  v37 := Tryz.zeroValue45
  t70 := Tryz.underlying44
  a70 := Tryz.isAgg44
  z70 := Tryz.sizeOf44
  v70 := Tryz.zeroValue44
  t72 := Tryz.underlying47
  a72 := Tryz.isAgg47
  z72 := Tryz.sizeOf47
  v72 := Tryz.zeroValue47
  t75 := Tryz.underlying50
  a75 := Tryz.isAgg50
  z75 := Tryz.sizeOf50
  v75 := Tryz.zeroValue50
  t164 := Tryz.underlying112
  a164 := Tryz.isAgg112
  z164 := Tryz.sizeOf112
  v164 := Tryz.zeroValue112 }
theorem Tryz.wr_extra : Builder.Extra Tryz.prog Tryz.wr_ren := {
  sizeBuilder := by kernel_rfl
  liesBuilder := by kernel_rfl
  t5 := Tryz.underlying5
  a5 := Tryz.isAgg5
  z5 := Tryz.sizeOf5
  v5 := Tryz.zeroValue5
  infoByte := by kernel_rfl
  cellsByte := by kernel_rfl
  sizeByte := by kernel_rfl
  neB5 := by decide }
open Go.RowKit in
theorem Tryz.writeString (B b : Nat) (bs : List Value) (s : ByteArray) (w : World) (h : Lib.IsBuilder 47 5 B b bs w) (hlen : bs.length + s.size ≤ 140737488355328) (hBw : B ≤ w.heap.size) :
    Calls Tryz.prog 15 #[.pointer (some ⟨b, 0, none⟩), .string s] w fun e w' => e = .returned (.tuple #[.int .i64 s.size, .nilIface]) ∧ (Lib.BuilderAt 47 5 B b (.pointer (some ⟨b, 0, none⟩)) (bs ++ Lib.strCells s) w' ∧ Below B w w') := Any.Builder_WriteString Tryz.wr_lays Tryz.wr_extra B b bs s w h hlen hBw
end Go.Proofs
namespace Go.Proofs.YtfobfpigbfepoaaGreatDoor
open Go.RowKit
theorem Gr.builderAt {T e : TypeId} {B b : Nat} {p : Value} {bs : List Value} {w w' : World} (g : Gr w w') (h : Lib.BuilderAt T e B b p bs w) : Lib.BuilderAt T e B b p bs w' := by
  have hlt := h.lt
  obtain ⟨hB, v, hb, hown, hne⟩ := h
  refine ⟨hB, v, (g.below.block b hlt).trans hb, hown.kept g.grownBy ?_, hne⟩
  cases hv : v.ownBlock with
  | none => exact Or.inl rfl
  | some q => exact Or.inr (by simp)
theorem Gr.isBuilder {T e : TypeId} {B b : Nat} {bs : List Value} {w w' : World} (g : Gr w w') (h : Lib.IsBuilder T e B b bs w) : Lib.IsBuilder T e B b bs w' :=
  h.elim (fun h => Or.inl (g.builderAt h)) (fun h => Or.inr (g.builderAt h))
def bkT (D : List Bk.Dn) : List UInt8 := D.flatMap (fun d => shT d.nm d.L)
def bsZ (D : List Bk.Dn) : Int := if Bk.mayB D = true then (if 2000 < (bkT D).length then 3 else 0) else 2
def bsT (D : List Bk.Dn) : ByteArray := if bsZ D = 0 then ⟨(bkT D).toArray⟩ else ⟨#[]⟩
theorem bkT_take (D : List Bk.Dn) (k : Nat) (h : k < D.length) : bkT (D.take (k + 1)) = bkT (D.take k) ++ shT D[k].nm D[k].L := by
  unfold bkT; rw [List.take_succ_eq_append_getElem h, List.flatMap_append]; simp
theorem bkT_len : ∀ (D : List Bk.Dn), (∀ d ∈ D, Bk.okB d = true) → (bkT D).length ≤ 600 * D.length
  | [], _ => by simp [bkT]
  | d :: D, h => by
    have h1 := shT_len (nm := d.nm) (L := d.L) (h d (by simp))
    have h2 := bkT_len D (fun x hx => h x (by simp [hx]))
    unfold bkT at h2 ⊢
    rw [List.flatMap_cons, List.length_append, List.length_cons]; omega
set_option maxHeartbeats 4000000 in
set_option maxRecDepth 100000 in
theorem show10_any (D : List Dm) (ad : Option Addr) (cap : Nat) (w : World) (hB : BkAt w ad D) (hn : D.length ≤ 9223372036854775807) (he : Env w) :
    Calls Tryz.prog 6 #[.slice ad D.length cap] w fun e w' => e = .returned (.tuple #[.string (bsT (dns D)), .int .i64 (bsZ (dns D))]) ∧ Gr w w' := by
  have HMa : Hid (∀ w', Gr w w' → Calls Tryz.prog 13 #[.slice ad D.length cap] w' fun e w2 => e = .returned (.int .i64 (Bk.mayE (dns D))) ∧ Gr w' w2) := fun w' g => may_any D ad cap w' (hB.gr g) hn
  cases hmay : Bk.mayB (dns D) with
  | false =>
    have HZ : Hid (bsZ (dns D) = 2) := by show _ = _; unfold bsZ; rw [hmay]; rfl
    have HT : Hid (bsT (dns D) = ⟨#[]⟩) := by show _ = _; unfold bsT; rw [HZ.out]; rfl
    rw [Bk.may_not hmay] at HMa
    clear hmay hB he
    go_enter Tryz.func6, Tryz.ntmps6
    go_wp2_with fail
    refine (HMa.out _ (by repeat (first | exact Gr.refl _ | refine Gr.alloc ?_ | refine Gr.drew ?_ | refine Gr.trans ?_ (by assumption)))).mono ?_
    rintro e w1 ⟨rfl, hg1⟩
    go_wp2
    go_ret2
    rw [HZ.out, HT.out]
    exact ⟨rfl, (by (repeat' (first | with_reducible exact Gr.refl _ | with_reducible refine Gr.set ?_ _ ?_ _ | with_reducible refine Gr.alloc ?_ | with_reducible refine Gr.drew ?_ | with_reducible refine Gr.trans ?_ (by assumption))) <;> (first | (simp; done) | (simp; omega) | omega))⟩
  | true =>
    obtain ⟨m1, m2, _⟩ := (Bk.may_iff _).1 hmay
    rw [dns_len] at m1
    have HSh : Hid (∀ (j : Nat) (h : j < D.length) w', Gr w w' → Calls Tryz.prog 14 #[.agg #[.string D[j].nm, .slice D[j].ad D[j].L.length D[j].cap]] w' fun e w2 => e = .returned (.tuple #[.string ⟨(shT D[j].nm D[j].L).toArray⟩, .int .i64 0]) ∧ Gr w' w2) := fun j h w' g => by
      have hok : Df.defB D[j].nm D[j].L = true := m2 D[j].dn (List.mem_map.2 ⟨_, List.getElem_mem h, rfl⟩)
      have hr := hB.rng _ (List.getElem_mem h)
      have := dShow_any D[j].nm D[j].L D[j].ad D[j].cap w' ((hB.gr g).st _ (List.getElem_mem h)) hr.1 hr.2.1 hr.2.2 (he.gr g)
      rw [show shE D[j].nm D[j].L = ⟨(shT D[j].nm D[j].L).toArray⟩ by unfold shE; rw [if_pos hok], Df.ch_yes hok] at this
      exact this
    have HLen : Hid (∀ k, (bkT ((dns D).take k)).length ≤ 4800) := by
      intro k
      have := bkT_len ((dns D).take k) (fun d hd => m2 d (List.mem_of_mem_take hd))
      have hl : ((dns D).take k).length ≤ 8 := by rw [List.length_take, dns_len]; omega
      omega
    have HSl : Hid (∀ (j : Nat) (h : j < D.length), (shT D[j].nm D[j].L).length ≤ 600) := fun j h => shT_len (m2 D[j].dn (List.mem_map.2 ⟨_, List.getElem_mem h, rfl⟩))
    have HTk : Hid (∀ (j : Nat) (h : j < D.length), bkT ((dns D).take (j + 1)) = bkT ((dns D).take j) ++ shT D[j].nm D[j].L) := by
      intro j h
      have := bkT_take (dns D) j (by rw [dns_len]; exact h)
      rw [dns_get D j h] at this
      exact this
    have HR := Lib.hid hB.row
    rw [Bk.may_ok hmay] at HMa
    have HZ : Hid (bsZ (dns D) = if 2000 < (bkT (dns D)).length then 3 else 0) := by show _ = _; unfold bsZ; rw [if_pos hmay]
    clear hmay hB he m2
    go_enter Tryz.func6, Tryz.ntmps6
    go_wp2_with fail
    refine (HMa.out _ (by repeat (first | exact Gr.refl _ | refine Gr.alloc ?_ | refine Gr.drew ?_ | refine Gr.trans ?_ (by assumption)))).mono ?_
    rintro e w1 ⟨rfl, hg1⟩
    have HG1 : Hid (Gr w w1) := (by repeat (first | exact Gr.refl _ | refine Gr.alloc ?_ | refine Gr.drew ?_ | refine Gr.trans ?_ (by assumption)))
    have hb0 : Lib.IsBuilder 47 5 w1.heap.size w1.heap.size [] (w1.alloc (.cells #[.pointer none, .slice none 0 0] 47)) := Lib.fresh_isBuilder 47 5 w1
    have HB0 := Lib.hid hb0
    clear hg1 HMa hb0
    go_wp2
    go_loopw [17] (fun s17 wr => ∃ k : Nat, s17 = .int .i64 k ∧ k ≤ D.length ∧ Lib.IsBuilder 47 5 w1.heap.size w1.heap.size (Lib.byteCells (bkT ((dns D).take k))) wr ∧ Gr w1 wr) (fun s17 _ => D.length - (intOf s17).toNat)
    case atStart => exact ⟨0, rfl, Nat.zero_le _, by rw [List.take_zero]; exact HB0.out, (Gr.refl _).alloc⟩
    case round =>
      clear HB0
      obtain ⟨k, rfl, hk, hbd, hg⟩ := hrel
      by_cases hlt : k < D.length
      · obtain ⟨b, off, rfl, hb, d0, d1⟩ := DmsAt.at HR.out k hlt
        have d0 := (HG1.out.trans hg).keep d0
        have d1 := (HG1.out.trans hg).keep d1
        have hbw := Nat.lt_of_lt_of_le hb (HG1.out.trans hg).size
        have hki : (k : Int) < (D.length : Int) := by omega
        have HX := Lib.hid (HSh.out k hlt)
        have HT1 := Lib.hid (HTk.out k hlt)
        have hl6 := HSl.out k hlt
        have hl8 := HLen.out k
        have HBd := Lib.hid hbd
        have HG : Hid (Gr w1 wr) := hg
        clear hbd hg
        generalize D[k] = x at *
        obtain ⟨xn, xa, xc, xl⟩ := x
        dsimp only at *
        generalize shT xn xl = tx at *
        generalize hacc : bkT ((dns D).take k) = acc at *
        go_wp2_with fail
        refine (HX.out _ ((HG1.out.trans HG.out).trans (by repeat (first | exact Gr.refl _ | refine Gr.alloc ?_ | refine Gr.drew ?_ | refine Gr.trans ?_ (by assumption))))).mono ?_
        rintro e w2 ⟨rfl, hg2⟩
        have gw2 : Gr wr w2 := (by repeat (first | exact Gr.refl _ | refine Gr.alloc ?_ | refine Gr.drew ?_ | refine Gr.trans ?_ (by assumption)))
        have hbd2 := gw2.isBuilder HBd.out
        have HG2 : Hid (Gr w1 w2) := HG.out.trans gw2
        have hlc : (Lib.byteCells acc).length + (⟨tx.toArray⟩ : ByteArray).size ≤ 140737488355328 := by
          rw [Lib.byteCells_length]; show acc.length + tx.toArray.size ≤ _; rw [List.size_toArray]; omega
        have HWs := Lib.hid (Tryz.writeString w1.heap.size w1.heap.size (Lib.byteCells acc) ⟨tx.toArray⟩ w2 hbd2 hlc HG2.out.size)
        clear hbd2 hlc hg2 gw2
        go_wp2_with fail
        refine HWs.out.mono ?_
        rintro e w3 ⟨rfl, h3, b3⟩
        rw [Lib.strCells_eq, ← Lib.byteCells_append, show (⟨tx.toArray⟩ : ByteArray).data.toList = tx by simp, ← HT1.out] at h3
        have HB3 : Hid (Lib.IsBuilder 47 5 w1.heap.size w1.heap.size (Lib.byteCells (bkT ((dns D).take (k + 1)))) w3) := Or.inr h3
        have HG3 : Hid (Gr w1 w3) := ⟨HG2.out.below.trans b3⟩
        clear h3 b3
        go_wp2
        go_roundw
        case rel => exact ⟨k + 1, by go_num, by omega, HB3.out, HG3.out⟩
        case measure => simp [intOf]; omega
      · have hge : ¬ ((k : Int) < (D.length : Int)) := by omega
        have hall : (dns D).take k = dns D := List.take_of_length_le (by rw [dns_len]; omega)
        have hl8 := HLen.out k
        rw [hall] at hbd hl8
        have HG : Hid (Gr w1 wr) := hg
        have HBd := Lib.hid hbd
        have HLn := Lib.hid (Tryz.Builder_Len w1.heap.size w1.heap.size _ wr hbd)
        rw [Lib.byteCells_length] at HLn
        clear hg hbd hall HLen HTk HSl HSh
        by_cases hbig : 2000 < (bkT (dns D)).length
        · have HZ3 : Hid (bsZ (dns D) = 3) := by show _ = _; rw [HZ.out, if_pos hbig]
          have HT3 : Hid (bsT (dns D) = ⟨#[]⟩) := by show _ = _; unfold bsT; rw [HZ3.out]; rfl
          have hbi : (2000 : Int) < ((bkT (dns D)).length : Int) := by omega
          clear HZ
          generalize (bkT (dns D)).length = n at *
          go_wp2_with fail
          refine HLn.out.mono ?_
          rintro e w2 ⟨rfl, hw2⟩
          obtain rfl := hw2.symm
          go_wp2
          go_ret2
          rw [HZ3.out, HT3.out]
          exact ⟨rfl, HG1.out.trans HG.out⟩
        · have HZ3 : Hid (bsZ (dns D) = 0) := by show _ = _; rw [HZ.out, if_neg hbig]
          have HT3 : Hid (bsT (dns D) = ⟨(bkT (dns D)).toArray⟩) := by show _ = _; unfold bsT; rw [HZ3.out]; rfl
          have hbi : ¬ (2000 : Int) < ((bkT (dns D)).length : Int) := by omega
          have HSt := Lib.hid (Tryz.Builder_String_any w1.heap.size w1.heap.size _ wr HBd.out HG.out.size)
          clear HZ
          go_wp2_with fail
          refine HLn.out.mono ?_
          rintro e w2 ⟨rfl, hw2⟩
          obtain rfl := hw2.symm
          go_wp2_with fail
          refine HSt.out.mono ?_
          rintro e w3 ⟨rfl, hb3⟩
          have HG3 : Hid (Gr w1 w3) := ⟨HG.out.below.trans hb3⟩
          go_wp2
          go_ret2
          rw [HZ3.out, HT3.out]
          exact ⟨rfl, HG1.out.trans HG3.out⟩
end Go.Proofs.YtfobfpigbfepoaaGreatDoor
namespace Go.Proofs.YtfobfpigbfepoaaGreatDoor
open Go.RowKit
open Df (Stp ownB askB stpB zerB defB chE)
open _root_.Go.Proofs.YtfobfpigbfepoaaGreatDoor.Act (nameB actB chkE)
theorem stp_own {s : Stp} (h : s.u = ⟨#[]⟩) : stpB s = (actB s.k s.a s.n && decide (s.o = 0) && decide (s.v = 0) && decide (1 ≤ s.y) && decide (s.y ≤ 5)) := by
  have hn : nameB s.u = false := by rw [h]; rfl
  unfold Df.stpB Df.askB Df.ownB
  rw [hn, decide_eq_true h]
  simp [Bool.and_assoc]
theorem stp_ask {s : Stp} (h : s.u ≠ ⟨#[]⟩) : stpB s = (decide (s.k = 0) && decide (s.a = ⟨#[]⟩) && decide (s.n = 0) && decide (s.y = 0) && nameB s.u && decide (0 ≤ s.o) && decide (s.o ≤ 15) && decide (1 ≤ s.v) && decide (s.v ≤ 50)) := by
  unfold Df.stpB Df.askB Df.ownB Df.zerB
  rw [decide_eq_false h]
  cases nameB s.u <;> cases decide (s.k = 0) <;> cases decide (s.a = ⟨#[]⟩) <;> cases decide (s.n = 0) <;> cases decide (s.y = 0) <;> simp [Bool.and_assoc]
set_option maxHeartbeats 8000000 in
set_option maxRecDepth 100000 in
theorem refStep_own (s : Stp) (w : World) (hs : inS s) (hu : s.u = ⟨#[]⟩) : Calls Tryz.prog 64 #[.agg #[.int .i64 s.k, .string s.a, .int .i64 s.n, .int .i64 s.o, .string s.u, .int .i64 s.y, .int .i64 s.v]] w fun e w' => e = .returned (.bool (stpB s)) ∧ Gr w w' := by
  have HC : Hid (∀ w', Calls Tryz.prog 90 #[.agg #[.int .i64 s.k, .string s.a, .int .i64 s.n]] w' fun e w2 => e = .returned (.int .i64 (chkE s.k s.a s.n)) ∧ Gr w' w2) := fun w' => refActCheck_any s.k s.n s.a w' hs.1
  have ht := text_eq s.u []
  rw [show (⟨[].toArray⟩ : ByteArray) = ⟨#[]⟩ from rfl, decide_eq_true hu] at ht
  have HB : Hid (stpB s = (actB s.k s.a s.n && decide (s.o = 0) && decide (s.v = 0) && decide (1 ≤ s.y) && decide (s.y ≤ 5))) := stp_own hu
  have HE : Hid (chkE s.k s.a s.n = if actB s.k s.a s.n = true then 0 else 60) := rfl
  have HX0 := Lib.hid (AccAt.new w (.int .i64 s.k) (.string s.a) (.int .i64 s.n) (.int .i64 s.o) (.string s.u) (.int .i64 s.y) (.int .i64 s.v) 78 _ rfl)
  clear hs hu
  generalize stpB s = OB at *
  generalize chkE s.k s.a s.n = CE at *
  generalize actB s.k s.a s.n = AB at *
  cases AB with
  | true =>
    have e2 : CE = 0 := HE.out
    subst e2
    by_cases ho : s.o = 0
    · rw [decide_eq_true ho] at HB
      have eo : (s.o == 0) = true := by simpa using ho
      clear ho
      by_cases hv : s.v = 0
      · rw [decide_eq_true hv] at HB
        have ev : (s.v == 0) = true := by simpa using hv
        clear hv
        by_cases hp : 1 ≤ s.y
        · rw [decide_eq_true hp] at HB
          have HF : Hid (OB = decide (s.y ≤ 5)) := HB.out
          clear HB HE
          go_enter Tryz.func64, Tryz.ntmps64
          go_wp2_with fail
          refine (HC.out _).mono ?_
          rintro e w1 ⟨rfl, hg⟩
          obtain ⟨x0, x1, x2, x3, x4, x5, x6⟩ := (HX0.out.gr hg).cells
          have xl := (HX0.out.gr hg).lt
          have HG1 : Hid (Gr w w1) := (Gr.refl _).alloc.trans hg
          clear hg
          go_wp2
          go_ret
          exact ⟨by rw [HF.out]; rfl, HG1.out⟩
        · rw [decide_eq_false hp] at HB
          have HF : Hid (OB = false) := HB.out.trans (by simp)
          clear HB HE
          go_enter Tryz.func64, Tryz.ntmps64
          go_wp2_with fail
          refine (HC.out _).mono ?_
          rintro e w1 ⟨rfl, hg⟩
          obtain ⟨x0, x1, x2, x3, x4, x5, x6⟩ := (HX0.out.gr hg).cells
          have xl := (HX0.out.gr hg).lt
          have HG1 : Hid (Gr w w1) := (Gr.refl _).alloc.trans hg
          clear hg
          go_wp2
          go_ret
          exact ⟨by rw [HF.out]; rfl, HG1.out⟩
      · rw [decide_eq_false hv] at HB
        have ev : (s.v == 0) = false := by simpa using hv
        clear hv
        have HF : Hid (OB = false) := HB.out.trans (by simp)
        clear HB HE
        go_enter Tryz.func64, Tryz.ntmps64
        go_wp2_with fail
        refine (HC.out _).mono ?_
        rintro e w1 ⟨rfl, hg⟩
        obtain ⟨x0, x1, x2, x3, x4, x5, x6⟩ := (HX0.out.gr hg).cells
        have xl := (HX0.out.gr hg).lt
        have HG1 : Hid (Gr w w1) := (Gr.refl _).alloc.trans hg
        clear hg
        go_wp2
        go_ret
        exact ⟨by rw [HF.out]; rfl, HG1.out⟩
    · rw [decide_eq_false ho] at HB
      have eo : (s.o == 0) = false := by simpa using ho
      clear ho
      have HF : Hid (OB = false) := HB.out.trans (by simp)
      clear HB HE
      go_enter Tryz.func64, Tryz.ntmps64
      go_wp2_with fail
      refine (HC.out _).mono ?_
      rintro e w1 ⟨rfl, hg⟩
      obtain ⟨x0, x1, x2, x3, x4, x5, x6⟩ := (HX0.out.gr hg).cells
      have xl := (HX0.out.gr hg).lt
      have HG1 : Hid (Gr w w1) := (Gr.refl _).alloc.trans hg
      clear hg
      go_wp2
      go_ret
      exact ⟨by rw [HF.out]; rfl, HG1.out⟩
  | false =>
    have e2 : CE = 60 := HE.out
    subst e2
    have HF : Hid (OB = false) := HB.out.trans (by simp)
    clear HB HE
    go_enter Tryz.func64, Tryz.ntmps64
    go_wp2_with fail
    refine (HC.out _).mono ?_
    rintro e w1 ⟨rfl, hg⟩
    obtain ⟨x0, x1, x2, x3, x4, x5, x6⟩ := (HX0.out.gr hg).cells
    have xl := (HX0.out.gr hg).lt
    have HG1 : Hid (Gr w w1) := (Gr.refl _).alloc.trans hg
    clear hg
    go_wp2
    go_ret
    exact ⟨by rw [HF.out]; rfl, HG1.out⟩
set_option maxHeartbeats 8000000 in
set_option maxRecDepth 100000 in
theorem refStep_ask (s : Stp) (w : World) (hs : inS s) (hu : s.u ≠ ⟨#[]⟩) : Calls Tryz.prog 64 #[.agg #[.int .i64 s.k, .string s.a, .int .i64 s.n, .int .i64 s.o, .string s.u, .int .i64 s.y, .int .i64 s.v]] w fun e w' => e = .returned (.bool (stpB s)) ∧ Gr w w' := by
  have HN : Hid (∀ w', Calls Tryz.prog 43 #[.string s.u] w' fun e w2 => e = .returned (.bool (nameB s.u)) ∧ w2 = w') := fun w' => refName_any s.u w' hs.2.1
  have ht := text_eq s.u []
  rw [show (⟨[].toArray⟩ : ByteArray) = ⟨#[]⟩ from rfl, decide_eq_false hu] at ht
  have ta := text_eq s.a []
  rw [show (⟨[].toArray⟩ : ByteArray) = ⟨#[]⟩ from rfl] at ta
  have HB : Hid (stpB s = (decide (s.k = 0) && decide (s.a = ⟨#[]⟩) && decide (s.n = 0) && decide (s.y = 0) && nameB s.u && decide (0 ≤ s.o) && decide (s.o ≤ 15) && decide (1 ≤ s.v) && decide (s.v ≤ 50))) := stp_ask hu
  clear hs hu
  generalize stpB s = OB at *
  generalize nameB s.u = NB at *
  by_cases hk : s.k = 0
  · rw [decide_eq_true hk] at HB
    have ek : (s.k == 0) = true := by simpa using hk
    clear hk
    by_cases ha : s.a = ⟨#[]⟩
    · rw [decide_eq_true ha] at HB ta
      have ea : (s.a.toList == []) = true := ta
      clear ha ta
      by_cases hn : s.n = 0
      · rw [decide_eq_true hn] at HB
        have en : (s.n == 0) = true := by simpa using hn
        clear hn
        by_cases hy : s.y = 0
        · rw [decide_eq_true hy] at HB
          have ey : (s.y == 0) = true := by simpa using hy
          clear hy
          cases NB with
          | true =>
            by_cases ho : 0 ≤ s.o
            · rw [decide_eq_true ho] at HB
              by_cases hp : s.o ≤ 15
              · rw [decide_eq_true hp] at HB
                by_cases hv : 1 ≤ s.v
                · rw [decide_eq_true hv] at HB
                  have HF : Hid (OB = decide (s.v ≤ 50)) := HB.out
                  clear HB
                  go_enter Tryz.func64, Tryz.ntmps64
                  go_wp2_with fail
                  refine (HN.out _).mono ?_
                  rintro e w1 ⟨rfl, hw⟩; obtain rfl := hw.symm
                  go_wp2
                  go_ret
                  exact ⟨by rw [HF.out]; rfl, (by repeat (first | exact Gr.refl _ | refine Gr.alloc ?_ | refine Gr.drew ?_ | refine Gr.trans ?_ (by assumption)))⟩
                · rw [decide_eq_false hv] at HB
                  have HF : Hid (OB = false) := HB.out.trans (by simp)
                  clear HB
                  go_enter Tryz.func64, Tryz.ntmps64
                  go_wp2_with fail
                  refine (HN.out _).mono ?_
                  rintro e w1 ⟨rfl, hw⟩; obtain rfl := hw.symm
                  go_wp2
                  go_ret
                  exact ⟨by rw [HF.out]; rfl, (by repeat (first | exact Gr.refl _ | refine Gr.alloc ?_ | refine Gr.drew ?_ | refine Gr.trans ?_ (by assumption)))⟩
              · rw [decide_eq_false hp] at HB
                have HF : Hid (OB = false) := HB.out.trans (by simp)
                clear HB
                go_enter Tryz.func64, Tryz.ntmps64
                go_wp2_with fail
                refine (HN.out _).mono ?_
                rintro e w1 ⟨rfl, hw⟩; obtain rfl := hw.symm
                go_wp2
                go_ret
                exact ⟨by rw [HF.out]; rfl, (by repeat (first | exact Gr.refl _ | refine Gr.alloc ?_ | refine Gr.drew ?_ | refine Gr.trans ?_ (by assumption)))⟩
            · rw [decide_eq_false ho] at HB
              have HF : Hid (OB = false) := HB.out.trans (by simp)
              clear HB
              go_enter Tryz.func64, Tryz.ntmps64
              go_wp2_with fail
              refine (HN.out _).mono ?_
              rintro e w1 ⟨rfl, hw⟩; obtain rfl := hw.symm
              go_wp2
              go_ret
              exact ⟨by rw [HF.out]; rfl, (by repeat (first | exact Gr.refl _ | refine Gr.alloc ?_ | refine Gr.drew ?_ | refine Gr.trans ?_ (by assumption)))⟩
          | false =>
            have HF : Hid (OB = false) := HB.out.trans (by simp)
            clear HB
            go_enter Tryz.func64, Tryz.ntmps64
            go_wp2_with fail
            refine (HN.out _).mono ?_
            rintro e w1 ⟨rfl, hw⟩; obtain rfl := hw.symm
            go_wp2
            go_ret
            exact ⟨by rw [HF.out]; rfl, (by repeat (first | exact Gr.refl _ | refine Gr.alloc ?_ | refine Gr.drew ?_ | refine Gr.trans ?_ (by assumption)))⟩
        · rw [decide_eq_false hy] at HB
          have ey : (s.y == 0) = false := by simpa using hy
          clear hy
          have HF : Hid (OB = false) := HB.out.trans (by simp)
          clear HB
          go_enter Tryz.func64, Tryz.ntmps64
          go_wp2
          go_ret
          exact ⟨by rw [HF.out]; rfl, (by repeat (first | exact Gr.refl _ | refine Gr.alloc ?_ | refine Gr.drew ?_ | refine Gr.trans ?_ (by assumption)))⟩
      · rw [decide_eq_false hn] at HB
        have en : (s.n == 0) = false := by simpa using hn
        clear hn
        have HF : Hid (OB = false) := HB.out.trans (by simp)
        clear HB
        go_enter Tryz.func64, Tryz.ntmps64
        go_wp2
        go_ret
        exact ⟨by rw [HF.out]; rfl, (by repeat (first | exact Gr.refl _ | refine Gr.alloc ?_ | refine Gr.drew ?_ | refine Gr.trans ?_ (by assumption)))⟩
    · rw [decide_eq_false ha] at HB ta
      have ea : (s.a.toList == []) = false := ta
      clear ha ta
      have HF : Hid (OB = false) := HB.out.trans (by simp)
      clear HB
      go_enter Tryz.func64, Tryz.ntmps64
      go_wp2
      go_ret
      exact ⟨by rw [HF.out]; rfl, (by repeat (first | exact Gr.refl _ | refine Gr.alloc ?_ | refine Gr.drew ?_ | refine Gr.trans ?_ (by assumption)))⟩
  · rw [decide_eq_false hk] at HB
    have ek : (s.k == 0) = false := by simpa using hk
    clear hk
    clear ta
    have HF : Hid (OB = false) := HB.out.trans (by simp)
    clear HB
    go_enter Tryz.func64, Tryz.ntmps64
    go_wp2
    go_ret
    exact ⟨by rw [HF.out]; rfl, (by repeat (first | exact Gr.refl _ | refine Gr.alloc ?_ | refine Gr.drew ?_ | refine Gr.trans ?_ (by assumption)))⟩
theorem refStep_any (s : Stp) (w : World) (hs : inS s) : Calls Tryz.prog 64 #[.agg #[.int .i64 s.k, .string s.a, .int .i64 s.n, .int .i64 s.o, .string s.u, .int .i64 s.y, .int .i64 s.v]] w fun e w' => e = .returned (.bool (stpB s)) ∧ Gr w w' := by
  by_cases hu : s.u = ⟨#[]⟩
  · exact refStep_own s w hs hu
  · exact refStep_ask s w hs hu
set_option maxHeartbeats 4000000 in
set_option maxRecDepth 100000 in
theorem refDCheck_any (nm : ByteArray) (L : List Stp) (ad : Option Addr) (cap : Nat) (w : World) (hL : StpsAt w ad L) (hs : nm.size ≤ 9223372036854775807) (hn : L.length ≤ 9223372036854775807) (hz : ∀ s ∈ L, inS s) :
    Calls Tryz.prog 33 #[.agg #[.string nm, .slice ad L.length cap]] w fun e w' => e = .returned (.int .i64 (chE nm L)) ∧ Gr w w' := by
  have HN : Hid (∀ w', Calls Tryz.prog 43 #[.string nm] w' fun e w2 => e = .returned (.bool (nameB nm)) ∧ w2 = w') := fun w' => refName_any nm w' hs
  have HO : Hid (∀ (j : Nat) (h : j < L.length) (w' : World), Calls Tryz.prog 64 #[.agg #[.int .i64 L[j].k, .string L[j].a, .int .i64 L[j].n, .int .i64 L[j].o, .string L[j].u, .int .i64 L[j].y, .int .i64 L[j].v]] w' fun e w2 => e = .returned (.bool (stpB L[j])) ∧ Gr w' w2) := fun j h w' => refStep_any L[j] w' (hz _ (List.getElem_mem h))
  have HL : Hid (StpsAt w ad L) := hL
  have HX0 := Lib.hid (TwoAt.new w (.string nm) (.slice ad L.length cap) 38 _ rfl)
  cases hnb : nameB nm with
  | false =>
    have HF : Hid (chE nm L = 90) := Df.ch_no (by unfold Df.defB; rw [hnb]; rfl)
    rw [hnb] at HN
    clear hnb hL hz
    go_enter Tryz.func33, Tryz.ntmps33
    go_wp2_with fail
    refine (HN.out _).mono ?_
    rintro e w1 ⟨rfl, hw⟩; obtain rfl := hw.symm
    go_wp2
    go_ret
    exact ⟨by rw [HF.out]; rfl, (by repeat (first | exact Gr.refl _ | refine Gr.alloc ?_ | refine Gr.drew ?_ | refine Gr.trans ?_ (by assumption)))⟩
  | true =>
    rw [hnb] at HN
    by_cases hlen : 1 ≤ L.length ∧ L.length ≤ 8
    · have HY : Hid ((∀ j (hj : j < L.length), stpB L[j] = true) → chE nm L = 0) := fun h => Df.ch_yes (def_idx hnb hlen.1 hlen.2 h)
      have HX : Hid (∀ j (hj : j < L.length), stpB L[j] = false → chE nm L = 90) := fun j hj h => Df.ch_no (def_nidx j hj h)
      obtain ⟨l1, l8⟩ := hlen
      have k1 : ¬ (L.length : Int) < 1 := by omega
      have k2 : ¬ (8 : Int) < (L.length : Int) := by omega
      generalize chE nm L = CE at *
      have HG0 : Hid (Gr w (w.alloc (.cells #[.string nm, .slice ad L.length cap] 38))) := (Gr.refl _).alloc
      clear hnb hL hz hs hn
      go_enter Tryz.func33, Tryz.ntmps33
      go_wp2_with fail
      refine (HN.out _).mono ?_
      rintro e w1 ⟨rfl, hw⟩; obtain rfl := hw.symm
      go_wp2
      go_loopw [3] (fun i wr => ∃ k : Nat, k ≤ L.length ∧ i = .int .i64 (k : Int) ∧ Gr w wr ∧ TwoAt wr w.heap.size (.string nm) (.slice ad L.length cap) ∧ ∀ j (hj : j < L.length), j < k → stpB L[j] = true) (fun i _ => L.length - (intOf i).toNat)
      case atStart => exact ⟨0, by omega, rfl, HG0.out, HX0.out, fun j _ h => absurd h (by omega)⟩
      case round =>
        obtain ⟨k, hk, rfl, hg, hx, hP⟩ := hrel
        have HG : Hid (Gr w wr) := hg
        have HXw := Lib.hid hx
        have HP : Hid (∀ j (hj : j < L.length), j < k → stpB L[j] = true) := hP
        obtain ⟨u0, u1, _, _, ul⟩ := hx
        clear hg hP
        by_cases hlt : k < L.length
        · obtain ⟨b, off, rfl, hb, x0, x1, x2, x3, x4, x5, x6⟩ := StpsAt.at (HL.out.gr HG.out) k hlt
          have HOk : Hid (∀ w', Calls Tryz.prog 64 #[.agg #[.int .i64 L[k].k, .string L[k].a, .int .i64 L[k].n, .int .i64 L[k].o, .string L[k].u, .int .i64 L[k].y, .int .i64 L[k].v]] w' fun e w2 => e = .returned (.bool (stpB L[k])) ∧ Gr w' w2) := HO.out k hlt
          have HXk := Lib.hid (HX.out k hlt)
          generalize hSB : stpB L[k] = SB at *
          have HSB : Hid (∀ _h : k < L.length, stpB L[k] = SB) := fun _ => hSB
          clear hSB
          generalize L[k].k = a0 at *
          generalize L[k].a = a1 at *
          generalize L[k].n = a2 at *
          generalize L[k].o = a3 at *
          generalize L[k].u = a4 at *
          generalize L[k].y = a5 at *
          generalize L[k].v = a6 at *
          go_wp2_with fail
          refine (HOk.out _).mono ?_
          rintro e w2 ⟨rfl, hg2⟩
          have HG2 : Hid (Gr w w2) := HG.out.trans hg2
          have HX2 := Lib.hid (HXw.out.gr hg2)
          clear hg2 x0 x1 x2 x3 x4 x5 x6
          cases SB with
          | true =>
            go_wp2
            go_roundw
            case rel => exact ⟨k + 1, by omega, by go_num, HG2.out, HX2.out, fun j hj h => if e : j = k then by subst e; exact HSB.out hj else HP.out j hj (by omega)⟩
            case measure => simp [intOf]; omega
          | false =>
            have HF : Hid (CE = 90) := HXk.out rfl
            go_wp2
            go_ret
            exact ⟨by rw [HF.out]; rfl, HG2.out⟩
        · obtain rfl : k = L.length := by omega
          have HF : Hid (CE = 0) := HY.out (fun j hj => HP.out j hj hj)
          go_wp2
          go_ret
          exact ⟨by rw [HF.out]; rfl, HG.out⟩
    · have HF : Hid (chE nm L = 90) := Df.ch_no (by
        cases hd : Df.defB nm L with
        | false => rfl
        | true => have := (Df.def_iff nm L).1 hd; exact absurd ⟨this.2.1, this.2.2.1⟩ hlen)
      clear hnb hL hz
      by_cases k1 : (L.length : Int) < 1
      · clear hlen
        go_enter Tryz.func33, Tryz.ntmps33
        go_wp2_with fail
        refine (HN.out _).mono ?_
        rintro e w1 ⟨rfl, hw⟩; obtain rfl := hw.symm
        go_wp2
        go_ret
        exact ⟨by rw [HF.out]; rfl, (by repeat (first | exact Gr.refl _ | refine Gr.alloc ?_ | refine Gr.drew ?_ | refine Gr.trans ?_ (by assumption)))⟩
      · have k2 : (8 : Int) < (L.length : Int) := by
          by_cases h8 : L.length ≤ 8
          · exact absurd ⟨by omega, h8⟩ hlen
          · omega
        clear hlen
        go_enter Tryz.func33, Tryz.ntmps33
        go_wp2_with fail
        refine (HN.out _).mono ?_
        rintro e w1 ⟨rfl, hw⟩; obtain rfl := hw.symm
        go_wp2
        go_ret
        exact ⟨by rw [HF.out]; rfl, (by repeat (first | exact Gr.refl _ | refine Gr.alloc ?_ | refine Gr.drew ?_ | refine Gr.trans ?_ (by assumption)))⟩
end Go.Proofs.YtfobfpigbfepoaaGreatDoor
