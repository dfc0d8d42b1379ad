
/- For every input the law SegmentReads answers true: a file of a head and frames is read as their bodies, whatever is cut off its end behind the head, up to the frame in which it was cut. -/
import Derived.Test.YtoeibjflaiiljaaDoorLaidQ
import Derived.Test.YtoeibjflaiiljaaDoorSgW
import Derived.Test.YtoeibjflaiiljaaDoorSgQ
import Derived.Test.YtoeibjflaiiljaaDoorSmlA
import Derived.Test.YtoeibjflaiiljaaDoorOpenH
import Derived.Test.YtoeibjflaiiljaaDoorOpenG
import Derived.Test.YtoeibjflaiiljaaDoorRegH
import Derived.Lib.AppendZeros
import Derived.Laws.AppendOwnNone
import Derived.WalkMore
import Derived.Deep.DeepCutAuto
import Derived.SevenTiedAt
namespace Go.Proofs.YtoeibjflaiiljaaDoor
open Go.ChangeShapes Go.WideShapes Go.ChangeAt Go.RowKit
open Go.ChangeMaps (open_string shut_string)
open Dk (Fl)

theorem ext0_data (s : ByteArray) (k : Nat) : (s.extract 0 k).data.toList = s.data.toList.take k := by
  have := ext_dat s 0 k
  rw [Nat.zero_add] at this
  rw [this, List.drop_zero]
theorem map_back (L : List ByteArray) : (L.map (fun s => s.data.toList)).map mkT = L := by
  rw [List.map_map]
  exact (List.map_congr_left (fun s _ => mk_data s)).trans (List.map_id _)
theorem arr_ext (s : ByteArray) (l : List UInt8) (h : s.data.toList = l) : s = ⟨l.toArray⟩ := by
  subst h; exact (mk_data s).symm
theorem row_new1 (W : World) (f : Fl) (ty : TypeId) (B : Nat) (hB : B = W.heap.size) : RowAt flf (W.alloc (.cells #[.int .i64 f.n, .string f.d, .int .i64 f.y] ty)) (some ⟨B, 0, none⟩) [f] := by
  subst hB
  exact row_one (by simp) (by simp) (by simp)
/- texts, a cell each -/
def stf (s : ByteArray) : List Value := [.string s]
theorem stf_len (s : ByteArray) : (stf s).length = 1 := rfl
theorem stf_one (L : List ByteArray) : ∀ u ∈ L.flatMap stf, u.oneCell' = true := by
  intro u hu
  obtain ⟨x, _, h⟩ := List.mem_flatMap.1 hu
  simp only [stf, List.mem_singleton] at h
  subst h
  rfl
theorem stf_map (L : List ByteArray) : L.flatMap stf = L.map Value.string := by
  induction L with
  | nil => rfl
  | cons x r ih => rw [List.flatMap_cons, List.map_cons, ih]; rfl
theorem stf_row {w : World} {ad : Option Addr} {L : List ByteArray} (h : StrsAt w ad L) : RowAt stf w ad L := by
  intro j u hu
  rw [stf_map, List.getElem?_map] at hu
  rcases Nat.lt_or_ge j L.length with hj | hj
  · rw [List.getElem?_eq_getElem hj] at hu
    simp at hu
    subst hu
    exact h j hj
  · rw [List.getElem?_eq_none hj] at hu
    cases hu
theorem StrsAt.take {w : World} {ad : Option Addr} {L : List ByteArray} (h : StrsAt w ad L) (k : Nat) : StrsAt w ad (L.take k) := by
  intro j hj
  have hj' : j < L.length := by rw [List.length_take] at hj; omega
  obtain ⟨b, off, e, hb, hc⟩ := h j hj'
  exact ⟨b, off, e, hb, by rw [List.getElem_take]; exact hc⟩
theorem own_texts {base : Nat} {v : Value} {L : List ByteArray} {n : Nat} {w : World} (hn : n = L.length) (h : w.ownsRow base 9 1 v n (L.map Value.string)) : ∃ ad cap, v = .slice ad L.length cap ∧ StrsAt w ad L := by
  subst hn
  have e : L.map Value.string = strV (L.map (fun s => s.data.toList)) := by
    unfold strV
    rw [List.map_map]
    exact List.map_congr_left (fun s _ => by show Value.string s = Value.string (mkT s.data.toList); rw [show mkT s.data.toList = s from mk_data s])
  rw [e] at h
  have hl : (L.map (fun s => s.data.toList)).length = L.length := List.length_map _
  rw [← hl] at h
  obtain ⟨ad, cap, hv, hs⟩ := own_strs h
  rw [map_back] at hs
  rw [hl] at hv
  exact ⟨ad, cap, hv, hs⟩
theorem step_append_rowG {P : Program} {w : World} {ops : Array Oper} {o : Oper} {a : Act} {K : Act → World → Prop} {Q : Exit → Act → World → Prop} {E : Prop} (hw : Region.wanted o (yielded ops a.tmps) = true) (s x : Operand) (t : TypeId)
    (ho : o.op = .call { callee := .builtin .append, args := #[s, x], argTypes := #[t, t] })
    (base : Nat) (e : TypeId) (i : TypeInfo) (z : Value) (size bytes : Nat) (ht : P.underlying t = some (.slice e)) (hi : P.info? e = some i) (hz : i.zero = some z)
    (hsize : i.size = size) (hby : i.bytes = bytes) (hzs : z.cells.size = size) (hsz : 0 < size)
    (v : Value) (n : Nat) (xs : List Value) (hs : a.eval s = v) (hown : w.ownsRow base e size v n xs)
    {α : Type} {f : α → List Value} (hf : ∀ x, (f x).length = size) (L : List α) (ad : Option Addr) (c : Nat) (hx : a.eval x = .slice ad L.length c) (hc : ad = none → c = 0) (row : RowAt f w ad L) (h1 : ∀ u ∈ L.flatMap f, u.oneCell' = true)
    (h63 : n + L.length ≤ maxLen) (hbytes : (n + L.length) * bytes ≤ 140737488355328) (hbase : base ≤ w.heap.size)
    (h : ∀ v' w', w'.ownsRow base e size v' (n + L.length) (xs ++ L.flatMap f) → w.grownBy w' v.ownBlock → K (a.put o.dst v') w') :
    if Region.wanted o (yielded ops a.tmps) = true then Oper.wp P o a w K Q else E := by
  rw [if_pos hw]
  cases ad with
  | none =>
    have hL := RowAt.none hf hsz row
    subst hL
    obtain rfl := hc rfl
    have hrun := run_append_owned_none (P := P) (w := w) base t o.type e i size ht hi v n xs hown
    unfold Oper.wp
    simp only [List.length_nil] at hx
    simp [execOp, ho, resolve, invoke, builtin, hs, hx, hrun, Result.andThen]
    exact h v w (by simpa using hown) ⟨rfl, rfl, rfl, Nat.le_refl _, fun _ _ _ => rfl⟩
  | some ad =>
    obtain ⟨v', w', hr, h2, h3, _⟩ := run_append_own (P := P) w base t o.type e i z size bytes ht hi hz hsize hby hzs hsz v n xs hown ad L.length c (L.flatMap f) (flat_len hf L) row.news h1 h63 hbytes hbase
    unfold Oper.wp execOp
    simp only [ho, resolve, invoke, builtin, Sem.run_bind, Sem.run_pure, Result.andThen_ok, List.map_toArray, List.map_cons, List.map_nil, hs, hx, hr]
    exact h v' w' h2 h3
theorem slice_lowS (ad : Option Addr) (n cap c : Nat) (hc : c ≤ n) (hn : n ≤ cap) (W : World) :
    (Instr.sliceAt 22 (.slice ad n cap) none (some (.int .i64 c)) none).run Tryd.prog W = .ok (.slice ad c cap) W := by
  have h1 : (c : Int) ≤ cap := by omega
  go_simp
theorem next_one (x : ByteArray) : Sg.next [x] = if x.size ≤ 30000 then (Sl.frame 3 x.data.toList, 0) else ([], 3) := by
  unfold Sg.next Sg.fit Sg.frs
  by_cases h : x.size ≤ 30000
  · rw [if_pos h, if_pos (by simp [h])]
    simp [Sg.seal3, h]
  · rw [if_neg h, if_neg (by simp [h])]
/- where the file ends behind k bodies -/
def eR (F : List UInt8) (L : List ByteArray) (k : Nat) : Nat := F.length + (Sg.frs (L.take k)).length
def eL (F : List UInt8) (L : List ByteArray) (k : Nat) : List Int := (List.range (k + 1)).map fun j => (eR F L j : Int)
theorem eL_len (F : List UInt8) (L : List ByteArray) (k : Nat) : (eL F L k).length = k + 1 := by simp [eL]
theorem eL_more (F : List UInt8) (L : List ByteArray) (k : Nat) : eL F L (k + 1) = eL F L k ++ [(eR F L (k + 1) : Int)] := by simp [eL, List.range_succ]
theorem eL_get (F : List UInt8) (L : List ByteArray) (k j : Nat) (h : j < (eL F L k).length) : (eL F L k)[j] = (eR F L j : Int) := by simp [eL]
theorem eR_le (F : List UInt8) (L : List ByteArray) (k : Nat) : eR F L k ≤ F.length + (Sg.frs L).length := by
  have := Sg.frs_take_le L k
  unfold eR; omega

theorem keep5 {w w' : World} {p0 p1 p2 p3 p4 : Addr} {v0 v1 v2 v3 v4 : Value} (h : w.cell? p0 = some v0 ∧ w.cell? p1 = some v1 ∧ w.cell? p2 = some v2 ∧ w.cell? p3 = some v3 ∧ w.cell? p4 = some v4) (k : Gr w w') :
    w'.cell? p0 = some v0 ∧ w'.cell? p1 = some v1 ∧ w'.cell? p2 = some v2 ∧ w'.cell? p3 = some v3 ∧ w'.cell? p4 = some v4 := ⟨k.keep h.1, k.keep h.2.1, k.keep h.2.2.1, k.keep h.2.2.2.1, k.keep h.2.2.2.2⟩

set_option maxHeartbeats 8000000 in
set_option maxRecDepth 100000 in
theorem reads_core (s : ByteArray) (L : List ByteArray) (ad : Option Addr) (cap : Nat) (c : Int) (w : World) (F : List UInt8)
    (HA : Hid (∀ w', Gr w w' → Calls Tryd.prog 8 #[] w' fun e w2 => e = .returned (.bool true) ∧ Gr w' w2))
    (H0 : Hid (∀ w', Gr w w' → Calls Tryd.prog 7 #[.slice ad L.length cap] w' fun e w2 => e = .returned (.bool true) ∧ w2 = w'))
    (HB : Hid (∀ w', Gr w w' → Calls Tryd.prog 9 #[.string s] w' fun e w2 => e = .returned (.tuple #[.string ⟨F.toArray⟩, .int .i64 0]) ∧ Gr w' w2))
    (HN : Hid (∀ (x : ByteArray) (w' : World) (b : Nat), x ∈ L → Gr w w' → w'.cell? ⟨b, 0, none⟩ = some (.string x) → Calls Tryd.prog 11 #[.slice (some ⟨b, 0, none⟩) 1 1] w' fun e w2 => e = .returned (.tuple #[.string ⟨(Sg.next [x]).1.toArray⟩, .int .i64 ((Sg.next [x]).2 : Nat)]) ∧ Gr w' w2))
    (HL : Hid (Sg.fit L = true → ∀ (q k : Nat), F.length ≤ q → q ≤ F.length + (Sg.frs L).length → k ≤ L.length → eR F L k ≤ q → (k = L.length ∨ q < eR F L (k + 1)) → ∀ (w' : World) (b : Nat), Gr w w' → RowAt flf w' (some ⟨b, 0, none⟩) [⟨5, (⟨(F ++ Sg.frs L).toArray⟩ : ByteArray).extract 0 q, 0⟩] → Calls Tryd.prog 14 #[.slice (some ⟨b, 0, none⟩) 1 1] w' fun e w2 => ∃ ab cb da cd, e = .returned (.tuple #[.agg #[.int .i64 5, .int .i64 (eR F L k : Int), .slice ab (k + 1) cb, .slice da 0 cd], .int .i64 0]) ∧ StrsAt w2 ab (s :: L.take k) ∧ Gr w' w2))
    (HS : Hid (∀ (w' : World) (a1 a2 : Option Addr) (c1 c2 k : Nat), k ≤ L.length → StrsAt w' a1 (s :: L.take k) → StrsAt w' a2 (s :: L.take k) → Calls Tryd.prog 16 #[.slice a1 (k + 1) c1, .slice a2 (k + 1) c2] w' fun e w2 => e = .returned (.bool true) ∧ Gr w' w2))
    (hR : StrsAt w ad L) (hs : s.size ≤ 30000) (hF : F.length ≤ 30020) (hl : L.length ≤ 5000) (hfr : (Sg.frs L).length ≤ 150000) (hcap : L.length ≤ cap) (hnil : ad = none → cap = 0) :
    Calls Tryd.prog 5 #[.string s, .slice ad L.length cap, .int .i64 c] w fun e w' => e = .returned (.bool true) ∧ Gr w w' := by
  obtain ⟨i0, hi0, hz0, hz1, hz2⟩ := info_parts infoN
  obtain ⟨j0, hj0, hy0, hy1, hy2⟩ := info_parts info9
  have e1 : decide ((30000 : Int) < (s.size : Int)) = false := decide_eq_false (by omega)
  have HR := Lib.hid hR
  have hFs : (⟨F.toArray⟩ : ByteArray).size = F.length := by simp [ByteArray.size]
  clear hR
  go_enter Tryd.func5, Tryd.ntmps5
  go_wp2_with fail
  refine (H0.out _ (by repeat (first | exact Gr.refl _ | refine Gr.alloc ?_ | refine Gr.drew ?_ | refine Gr.trans ?_ (by assumption)))).mono ?_
  rintro f0 w0 ⟨rfl, hw0⟩; obtain rfl := hw0.symm
  go_wp2_with fail
  refine (HB.out _ (by repeat (first | exact Gr.refl _ | refine Gr.alloc ?_ | refine Gr.drew ?_ | refine Gr.trans ?_ (by assumption)))).mono ?_
  rintro f1 w1 ⟨rfl, hg1⟩
  have G1 := Lib.hid hg1
  have hs1 := hg1.size
  have HO0 : Hid ((w1.alloc (.cells #[.int .i64 (F.length : Int)] 3)).ownsRow w.heap.size 3 1 (.slice (some ⟨w1.heap.size, 0, none⟩) 1 1) 1 (intV (eL F L 0))) := by
    have := own_one w1 w.heap.size (.int .i64 (F.length : Int)) 3 _ rfl hs1
    rw [show intV (eL F L 0) = [.int .i64 (F.length : Int)] by simp [eL, eR, intV, Sg.frs]]
    exact this
  clear hg1 H0 HB
  go_wp2
  go_loopw [7, 9, 10] (fun u v i wr => ∃ k : Nat, k ≤ L.length ∧ i = .int .i64 k ∧ u = .string ⟨(F ++ Sg.frs (L.take k)).toArray⟩ ∧ Sg.fit (L.take k) = true ∧ wr.ownsRow w.heap.size 3 1 v (k + 1) (intV (eL F L k)) ∧ Gr w wr) (fun _ _ i _ => L.length - (intOf i).toNat)
  case atStart => exact ⟨0, Nat.zero_le _, rfl, by simp [Sg.frs], by simp [Sg.fit], HO0.out, G1.out.alloc⟩
  case round =>
    clear HO0 G1
    obtain ⟨k, hk, rfl, rfl, hft, hown, hg⟩ := hrel
    have HG := Lib.hid hg
    have hgs := hg.size
    by_cases hlt : k < L.length
    · obtain ⟨b, off, rfl, hb, hc⟩ := HR.out k hlt
      have hc := hg.keep hc
      have hki : (k : Int) < (L.length : Int) := by omega
      have HX : Hid (∀ (w' : World) (b : Nat), Gr w w' → w'.cell? ⟨b, 0, none⟩ = some (.string L[k]) → Calls Tryd.prog 11 #[.slice (some ⟨b, 0, none⟩) 1 1] w' fun e w2 => e = .returned (.tuple #[.string ⟨(Sg.next [L[k]]).1.toArray⟩, .int .i64 ((Sg.next [L[k]]).2 : Nat)]) ∧ Gr w' w2) := fun w' b g h => HN.out L[k] w' b (List.getElem_mem hlt) g h
      have hm := Sg.frs_more L k hlt
      have hle := Sg.frs_take_le L (k + 1)
      have HFT := Lib.hid (Sg.fit_take L k hlt hft)
      have ha := add_lists (F ++ Sg.frs (L.take k)) (Sl.sealE 3 L[k].data.toList).1 (by rw [hm, List.length_append] at hle; rw [List.length_append]; omega)
      rw [List.append_assoc, ← hm] at ha
      rw [next_one] at HX
      rw [Sg.seal3] at ha
      have hle2 := eR_le F L (k + 1)
      by_cases hbg : L[k].size ≤ 30000
      · rw [if_pos hbg] at HX ha
        rw [decide_eq_true hbg] at HFT
        have hcl : (⟨(F ++ Sg.frs (L.take (k + 1))).toArray⟩ : ByteArray).size = eR F L (k + 1) := by simp [ByteArray.size, eR]
        have HE : Hid (intV (eL F L (k + 1)) = intV (eL F L k) ++ [.int .i64 (eR F L (k + 1) : Int)]) := by
          show _ = _
          rw [eL_more, intV_snoc]
        have hm1 : k + 1 + 1 ≤ maxLen := by unfold maxLen; omega
        clear hm hle hg hle2
        generalize L[k] = x at *
        generalize Sl.frame 3 x.data.toList = tx at *
        go_wp2_with fail
        refine (HX.out _ _ (HG.out.trans (by repeat (first | exact Gr.refl _ | refine Gr.alloc ?_ | refine Gr.drew ?_ | refine Gr.trans ?_ (by assumption)))) (by simp)).mono ?_
        rintro f2 w2 ⟨rfl, hg2⟩
        have G2 := Lib.hid (HG.out.trans ((Gr.refl _).alloc.trans hg2) : Gr w w2)
        have hown2 := row_gr hown ((Gr.refl _).alloc.trans hg2)
        have hgs2 := G2.out.size
        obtain ⟨va, vc, rfl⟩ := own_slice hown2
        clear hg2 hown
        go_wp2_with (first
          | (at_builtin; refine wpList_append_own _ rfl _ _ 35 rfl w.heap.size 3 i0 (.int .i64 0) 1 8 Tryd.underlying35 hi0 hz0 hz1 hz2 rfl (by decide) _ _ _ rfl (hown2.alloc _) ⟨w2.heap.size, 0, none⟩ 1 1 [.int .i64 (eR F L (k + 1) : Int)] rfl rfl (cell_one_new _ _ _) (by intro u hu; simp at hu; subst hu; rfl) hm1 (by omega) (by simp; omega) ?_)
          | fail)
        intro v' w3 hown' hgrow _
        have G3 : Hid (Gr w w3) := G2.out.alloc.grown hgrow (fun q hq => (hown2.lt q hq).1)
        have HO3 := Lib.hid hown'
        clear hown2 hown' hgrow
        go_wp2
        go_roundw
        case rel => exact ⟨k + 1, by omega, by go_num, rfl, HFT.out, by rw [HE.out]; exact HO3.out, G3.out⟩
        case measure => simp [intOf]; omega
      · rw [if_neg hbg] at HX
        clear hm hle hg hle2 ha HFT hown
        generalize L[k] = x at *
        go_wp2_with fail
        refine (HX.out _ _ (HG.out.trans (by repeat (first | exact Gr.refl _ | refine Gr.alloc ?_ | refine Gr.drew ?_ | refine Gr.trans ?_ (by assumption)))) (by simp)).mono ?_
        rintro f2 w2 ⟨rfl, hg2⟩
        have G2 := Lib.hid (HG.out.trans ((Gr.refl _).alloc.trans hg2) : Gr w w2)
        clear hg2
        go_wp2_with fail
        refine (HA.out _ G2.out).mono ?_
        rintro f9 w9 ⟨rfl, hg9⟩
        go_wp2
        go_ret
        exact ⟨rfl, G2.out.trans hg9⟩
    · have hge : ¬ ((k : Int) < (L.length : Int)) := by omega
      obtain rfl : k = L.length := by omega
      rw [List.take_length] at hft
      have hall : L.take L.length = L := List.take_length
      rw [hall]
      obtain ⟨ea, ec, rfl, _, hia⟩ := own_nums (l := eL F L L.length) (by rw [eL_len]; exact hown)
      rw [eL_len]
      obtain ⟨S, hSq⟩ : ∃ S : ByteArray, (⟨(F ++ Sg.frs L).toArray⟩ : ByteArray) = S := ⟨_, rfl⟩
      have hSs : S.size = F.length + (Sg.frs L).length := by rw [← hSq]; simp [ByteArray.size]
      have HL2 := Lib.hid (HL.out hft)
      rw [hSq] at HL2 ⊢
      have HI := Lib.hid hia
      obtain ⟨eb, eo, rfl, heb, he0⟩ := hia 0 (by rw [eL_len]; omega)
      rw [eL_get, Nat.add_zero, show eR F L 0 = F.length by simp [eR, Sg.frs]] at he0
      clear hown hg hia HL hSq hft hall HN
      obtain ⟨wl, rfl⟩ : ∃ x, x = wr := ⟨_, rfl⟩
      by_cases c0 : c < (F.length : Int)
      · have d0 : decide (c < (F.length : Int)) = true := decide_eq_true c0
        go_wp2_with fail
        refine (HA.out _ HG.out).mono ?_
        rintro f9 w9 ⟨rfl, hg9⟩
        go_wp2
        go_ret
        exact ⟨rfl, HG.out.trans hg9⟩
      · have d0 : decide (c < (F.length : Int)) = false := decide_eq_false c0
        by_cases c1 : (S.size : Int) < c
        · have d1 : decide ((S.size : Int) < c) = true := decide_eq_true c1
          go_wp2_with fail
          refine (HA.out _ HG.out).mono ?_
          rintro f9 w9 ⟨rfl, hg9⟩
          go_wp2
          go_ret
          exact ⟨rfl, HG.out.trans hg9⟩
        · have d1 : decide ((S.size : Int) < c) = false := decide_eq_false c1
          obtain ⟨q, rfl⟩ := Int.eq_ofNat_of_zero_le (show 0 ≤ c by omega)
          have hqS : (q : Int) ≤ (S.size : Int) := by omega
          have hq1 : ¬ q < F.length := by omega
          have hq2 : ¬ S.size < q := by omega
          clear c0 c1
          go_wp2
          go_loop [13] (fun n => ∃ j : Nat, j ≤ L.length ∧ n = .int .i64 j ∧ eR F L j ≤ q) (fun n => L.length - (intOf n).toNat)
          case atStart => exact ⟨0, Nat.zero_le _, rfl, by simp [eR, Sg.frs]; omega⟩
          case round =>
            obtain ⟨j, hj, rfl, hjq⟩ := hrel
            obtain ⟨eb', eo', ee', _, hej⟩ := HI.out j (by rw [eL_len]; omega)
            cases ee'
            rw [eL_get] at hej
            by_cases hjl : j < L.length
            · obtain ⟨eb', eo', ee', _, hej1⟩ := HI.out (j + 1) (by rw [eL_len]; omega)
              cases ee'
              rw [eL_get] at hej1
              have hb2 : (j : Int) + 1 < ((L.length + 1 : Nat) : Int) := by omega
              by_cases hnx : eR F L (j + 1) ≤ q
              · have d2 : decide ((eR F L (j + 1) : Int) ≤ (q : Int)) = true := decide_eq_true (by omega)
                go_wp2
                go_round
                case rel => exact ⟨j + 1, by omega, by go_num, hnx⟩
                case measure => simp [intOf]; omega
              · have d2 : decide ((eR F L (j + 1) : Int) ≤ (q : Int)) = false := decide_eq_false (by omega)
                have hor : j = L.length ∨ q < eR F L (j + 1) := Or.inr (by omega)
                have hlj : (L.take j).length = j := by rw [List.length_take]; omega
                have hlow := slice_lowS ad L.length cap j hj hcap
                go_wp2_with fail
                refine (HL2.out q j (by omega) (by omega) hj hjq hor _ _ (HG.out.trans (by repeat (first | exact Gr.refl _ | refine Gr.alloc ?_ | refine Gr.drew ?_ | refine Gr.trans ?_ (by assumption)))) (by exact row_new1 _ ⟨5, S.extract 0 q, 0⟩ _ _ (by simp))).mono ?_
                rintro f3 w3 ⟨ab, cb, da, cd, rfl, hst, hg3⟩
                have G3 := Lib.hid (HG.out.trans ((by repeat (first | exact Gr.refl _ | refine Gr.alloc ?_ | refine Gr.drew ?_ | refine Gr.trans ?_ hg3)) : Gr wl w3))
                have hej3 := Gr.keep (w1 := w3) ((by repeat (first | exact Gr.refl _ | refine Gr.alloc ?_ | refine Gr.drew ?_ | refine Gr.trans ?_ hg3)) : Gr wl w3) hej
                have BX := Bx4.new w3 (.int .i64 5) (.int .i64 (eR F L j : Int)) (.slice ab (j + 1) cb) (.slice da 0 cd) 37 _ rfl
                have hk0 : (w3.alloc (.cells #[.int .i64 5, .int .i64 (eR F L j : Int), .slice ab (j + 1) cb, .slice da 0 cd] 37)).cell? ⟨w3.heap.size, 0, none⟩ = some (.int .i64 5) ∧ (w3.alloc (.cells #[.int .i64 5, .int .i64 (eR F L j : Int), .slice ab (j + 1) cb, .slice da 0 cd] 37)).cell? ⟨w3.heap.size, 1, none⟩ = some (.int .i64 (eR F L j : Int)) ∧ (w3.alloc (.cells #[.int .i64 5, .int .i64 (eR F L j : Int), .slice ab (j + 1) cb, .slice da 0 cd] 37)).cell? ⟨w3.heap.size, 2, none⟩ = some (.slice ab (j + 1) cb) ∧ (w3.alloc (.cells #[.int .i64 5, .int .i64 (eR F L j : Int), .slice ab (j + 1) cb, .slice da 0 cd] 37)).cell? ⟨w3.heap.size, 3, none⟩ = some (.slice da 0 cd) ∧ (w3.alloc (.cells #[.int .i64 5, .int .i64 (eR F L j : Int), .slice ab (j + 1) cb, .slice da 0 cd] 37)).cell? ⟨eb, eo + j, none⟩ = some (.int .i64 (eR F L j : Int)) := ⟨BX.c0, BX.c1, BX.c2, BX.c3, (Gr.refl _).alloc.keep hej3⟩
                have HST := Lib.hid (hst.gr (Gr.refl _).alloc : StrsAt (w3.alloc (.cells #[.int .i64 5, .int .i64 (eR F L j : Int), .slice ab (j + 1) cb, .slice da 0 cd] 37)) ab (s :: L.take j))
                have hR3 := Lib.hid (HR.out.gr G3.out.alloc : StrsAt (w3.alloc (.cells #[.int .i64 5, .int .i64 (eR F L j : Int), .slice ab (j + 1) cb, .slice da 0 cd] 37)) ad L)
                have G4 := Lib.hid (G3.out.alloc : Gr w (w3.alloc (.cells #[.int .i64 5, .int .i64 (eR F L j : Int), .slice ab (j + 1) cb, .slice da 0 cd] 37)))
                have hs4 : (w3.alloc (.cells #[.int .i64 5, .int .i64 (eR F L j : Int), .slice ab (j + 1) cb, .slice da 0 cd] 37)).heap.size = w3.heap.size + 1 := by simp
                clear hg3 hst BX hej3
                go_upto_region 21 with fail
                obtain ⟨W, hW⟩ : ∃ x, x = w3.alloc (.cells #[.int .i64 5, .int .i64 (eR F L j : Int), .slice ab (j + 1) cb, .slice da 0 cd] 37) := ⟨_, rfl⟩
                rw [← hW] at hk0 HST hR3 G4 hs4 ⊢
                clear hW
                have hjl1 : (j : Int) < (L.length : Int) + 1 := by omega
                refine wp_region_held_drew (S := (fun w' => w'.cell? ⟨w3.heap.size, 0, none⟩ = some (.int .i64 5) ∧ w'.cell? ⟨w3.heap.size, 1, none⟩ = some (.int .i64 (eR F L j : Int)) ∧ w'.cell? ⟨w3.heap.size, 2, none⟩ = some (.slice ab (j + 1) cb) ∧ w'.cell? ⟨w3.heap.size, 3, none⟩ = some (.slice da 0 cd) ∧ w'.cell? ⟨eb, eo + j, none⟩ = some (.int .i64 (eR F L j : Int)))) (by kernel_rfl) (by exact keep5 hk0 (by repeat (first | exact Gr.refl _ | refine Gr.alloc ?_ | refine Gr.drew ?_ | refine Gr.trans ?_ (by assumption)))) (fun hHeld => ?_)
                refine take_yes 0 98 (v := ?_) rfl rfl (by kernel_rfl) (by kernel_rfl) (by kernel_rfl) (fun _ _ _ h => h) (by rfl) ?_ hHeld ?_
                rotate_left
                · (intro w hSw; (try dsimp only at hSw); go_simp; try with_reducible rfl)
                simp only [Act.put, List.setIfInBounds_toArray, List.set_cons_zero, List.set_cons_succ]
                refine take_yes 1 99 (v := ?_) rfl rfl (by kernel_rfl) (by kernel_rfl) (by kernel_rfl) (fun _ _ _ h => h) (by rfl) ?_ hHeld ?_
                rotate_left
                · (intro w hSw; (try dsimp only at hSw); go_simp; try with_reducible rfl)
                simp only [Act.put, List.setIfInBounds_toArray, List.set_cons_zero, List.set_cons_succ]
                refine take_yes 2 100 (v := ?_) rfl rfl (by kernel_rfl) (by kernel_rfl) (by kernel_rfl) (fun _ _ _ h => h) (by rfl) ?_ hHeld ?_
                rotate_left
                · (intro w hSw; (try dsimp only at hSw); go_simp; try with_reducible rfl)
                simp only [Act.put, List.setIfInBounds_toArray, List.set_cons_zero, List.set_cons_succ]
                refine take_yes 3 101 (v := ?_) rfl rfl (by kernel_rfl) (by kernel_rfl) (by kernel_rfl) (fun _ _ _ h => h) (by rfl) ?_ hHeld ?_
                rotate_left
                · (intro w hSw; (try dsimp only at hSw); go_simp; try with_reducible rfl)
                simp only [Act.put, List.setIfInBounds_toArray, List.set_cons_zero, List.set_cons_succ]
                refine take_yes 4 102 (v := ?_) rfl rfl (by kernel_rfl) (by kernel_rfl) (by kernel_rfl) (fun _ _ _ h => h) (by rfl) ?_ hHeld ?_
                rotate_left
                · (intro w hSw; (try dsimp only at hSw); go_simp; try with_reducible rfl)
                simp only [Act.put, List.setIfInBounds_toArray, List.set_cons_zero, List.set_cons_succ]
                refine take_yes 5 103 (v := ?_) rfl rfl (by kernel_rfl) (by kernel_rfl) (by kernel_rfl) (fun _ _ _ h => h) (by rfl) ?_ hHeld ?_
                rotate_left
                · (intro w hSw; (try dsimp only at hSw); go_simp; try with_reducible rfl)
                simp only [Act.put, List.setIfInBounds_toArray, List.set_cons_zero, List.set_cons_succ]
                refine take_yes 6 104 (v := ?_) rfl rfl (by kernel_rfl) (by kernel_rfl) (by kernel_rfl) (fun _ _ _ h => h) (by rfl) ?_ hHeld ?_
                rotate_left
                · (intro w hSw; (try dsimp only at hSw); go_simp; try with_reducible rfl)
                simp only [Act.put, List.setIfInBounds_toArray, List.set_cons_zero, List.set_cons_succ]
                refine take_yes 7 105 (v := ?_) rfl rfl (by kernel_rfl) (by kernel_rfl) (by kernel_rfl) (fun _ _ _ h => h) (by rfl) ?_ hHeld ?_
                rotate_left
                · (intro w hSw; (try dsimp only at hSw); go_simp; try with_reducible rfl)
                simp only [Act.put, List.setIfInBounds_toArray, List.set_cons_zero, List.set_cons_succ]
                refine take_yes 8 106 (v := ?_) rfl rfl (by kernel_rfl) (by kernel_rfl) (by kernel_rfl) (fun _ _ _ h => h) (by rfl) ?_ hHeld ?_
                rotate_left
                · (intro w hSw; (try dsimp only at hSw); go_simp; try with_reducible rfl)
                simp only [Act.put, List.setIfInBounds_toArray, List.set_cons_zero, List.set_cons_succ]
                refine take_yes 9 107 (v := ?_) rfl rfl (by kernel_rfl) (by kernel_rfl) (by kernel_rfl) (fun _ _ _ h => h) (by rfl) ?_ hHeld ?_
                rotate_left
                · (intro w hSw; (try dsimp only at hSw); go_simp; try with_reducible rfl)
                simp only [Act.put, List.setIfInBounds_toArray, List.set_cons_zero, List.set_cons_succ]
                refine take_yes 10 108 (v := ?_) rfl rfl (by kernel_rfl) (by kernel_rfl) (by kernel_rfl) (fun _ _ _ h => h) (by rfl) ?_ hHeld ?_
                rotate_left
                · (intro w hSw; (try dsimp only at hSw); go_simp; try with_reducible rfl)
                simp only [Act.put, List.setIfInBounds_toArray, List.set_cons_zero, List.set_cons_succ]
                refine take_yes 11 109 (v := ?_) rfl rfl (by kernel_rfl) (by kernel_rfl) (by kernel_rfl) (fun _ _ _ h => h) (by rfl) ?_ hHeld ?_
                rotate_left
                · (intro w hSw; (try dsimp only at hSw); go_simp; try with_reducible rfl)
                simp only [Act.put, List.setIfInBounds_toArray, List.set_cons_zero, List.set_cons_succ]
                refine take_yes 12 110 (v := ?_) rfl rfl (by kernel_rfl) (by kernel_rfl) (by kernel_rfl) (fun _ _ _ h => h) (by rfl) ?_ hHeld ?_
                rotate_left
                · (intro w hSw; (try dsimp only at hSw); go_simp; try with_reducible rfl)
                simp only [Act.put, List.setIfInBounds_toArray, List.set_cons_zero, List.set_cons_succ]
                refine take_yes 13 111 (v := ?_) rfl rfl (by kernel_rfl) (by kernel_rfl) (by kernel_rfl) (fun _ _ _ h => h) (by rfl) ?_ hHeld ?_
                rotate_left
                · (intro w hSw; (try dsimp only at hSw); go_simp; try with_reducible rfl)
                simp only [Act.put, List.setIfInBounds_toArray, List.set_cons_zero, List.set_cons_succ]
                refine take_yes 14 112 (v := ?_) rfl rfl (by kernel_rfl) (by kernel_rfl) (by kernel_rfl) (fun _ _ _ h => h) (by rfl) ?_ hHeld ?_
                rotate_left
                · (intro w hSw; (try dsimp only at hSw); go_simp; try with_reducible rfl)
                simp only [Act.put, List.setIfInBounds_toArray, List.set_cons_zero, List.set_cons_succ]
                refine take_yes 15 113 (v := ?_) rfl rfl (by kernel_rfl) (by kernel_rfl) (by kernel_rfl) (fun _ _ _ h => h) (by rfl) ?_ hHeld ?_
                rotate_left
                · (intro w hSw; (try dsimp only at hSw); go_simp; try with_reducible rfl)
                simp only [Act.put, List.setIfInBounds_toArray, List.set_cons_zero, List.set_cons_succ]
                refine take_yes 16 114 (v := ?_) rfl rfl (by kernel_rfl) (by kernel_rfl) (by kernel_rfl) (fun _ _ _ h => h) (by rfl) ?_ hHeld ?_
                rotate_left
                · (intro w hSw; (try dsimp only at hSw); go_simp; try with_reducible rfl)
                simp only [Act.put, List.setIfInBounds_toArray, List.set_cons_zero, List.set_cons_succ]
                refine take_yes 17 115 (v := ?_) rfl rfl (by kernel_rfl) (by kernel_rfl) (by kernel_rfl) (fun _ _ _ h => h) (by rfl) ?_ hHeld ?_
                rotate_left
                · (intro w hSw; (try dsimp only at hSw); go_simp; try with_reducible rfl)
                simp only [Act.put, List.setIfInBounds_toArray, List.set_cons_zero, List.set_cons_succ]
                refine take_yes 18 116 (v := ?_) rfl rfl (by kernel_rfl) (by kernel_rfl) (by kernel_rfl) (fun _ _ _ h => h) (by rfl) ?_ hHeld ?_
                rotate_left
                · (intro w hSw; (try dsimp only at hSw); go_simp; try with_reducible rfl)
                simp only [Act.put, List.setIfInBounds_toArray, List.set_cons_zero, List.set_cons_succ]
                refine take_yes 19 117 (v := ?_) rfl rfl (by kernel_rfl) (by kernel_rfl) (by kernel_rfl) (fun _ _ _ h => h) (by rfl) ?_ hHeld ?_
                rotate_left
                · (intro w hSw; (try dsimp only at hSw); go_simp; try with_reducible rfl)
                simp only [Act.put, List.setIfInBounds_toArray, List.set_cons_zero, List.set_cons_succ]
                refine take_yes 21 119 (v := ?_) rfl rfl (by kernel_rfl) (by kernel_rfl) (by kernel_rfl) (fun _ _ _ h => h) (by rfl) ?_ hHeld ?_
                rotate_left
                · (intro w hSw; (try dsimp only at hSw); go_simp; try with_reducible rfl)
                simp only [Act.put, List.setIfInBounds_toArray, List.set_cons_zero, List.set_cons_succ]
                refine take_yes 22 120 (v := ?_) rfl rfl (by kernel_rfl) (by kernel_rfl) (by kernel_rfl) (fun _ _ _ h => h) (by rfl) ?_ hHeld ?_
                rotate_left
                · (intro w hSw; (try dsimp only at hSw); go_simp; try with_reducible rfl)
                simp only [Act.put, List.setIfInBounds_toArray, List.set_cons_zero, List.set_cons_succ]
                refine take_yes 23 121 (v := ?_) rfl rfl (by kernel_rfl) (by kernel_rfl) (by kernel_rfl) (fun _ _ _ h => h) (by rfl) ?_ hHeld ?_
                rotate_left
                · (intro w hSw; (try dsimp only at hSw); go_simp; try with_reducible rfl)
                simp only [Act.put, List.setIfInBounds_toArray, List.set_cons_zero, List.set_cons_succ]
                refine wpAnyH_ready (rs := [20]) (by kernel_rfl) (by simp) (AllReadyH.cons rfl (fun K hK => ?_) AllReadyH.nil)
                go_simp
                refine hK.out _ _ (by exact keep5 hk0 (by repeat (first | exact Gr.refl _ | refine Gr.alloc ?_ | refine Gr.drew ?_ | refine Gr.trans ?_ (by assumption)))) (fun hHeldN => ?_)
                clear hHeld hK K
                have hHeld := hHeldN
                clear hHeldN
                have own0 := own_one W.drew (w3.heap.size + 1) (.string s) 9 (w3.heap.size + 1) (by show w3.heap.size + 1 = W.heap.size; omega) (by show w3.heap.size + 1 ≤ W.heap.size; omega)
                refine wpAnyH_ready (rs := [24]) (by kernel_rfl) (by simp) (AllReadyH.cons rfl (fun K hK => ?_) AllReadyH.nil)
                (refine step_append_rowG (by rfl) _ _ 22 (by rfl) (w3.heap.size + 1) 9 j0 (.string ⟨#[]⟩) 1 16 Tryd.underlying22 hj0 hy0 hy1 hy2 rfl (by decide) _ 1 [.string s] (by rfl) own0 stf_len (L.take j) ad cap (by rw [hlj]; rfl) hnil (stf_row ((hR3.out.take j).gr (Gr.refl W).drew.alloc)) (stf_one _) (by unfold maxLen; omega) (by omega) (by show w3.heap.size + 1 ≤ (W.drew.alloc _).heap.size; simp; omega) ?_; intro v6 w6 ho6 hgr6; have G6 : Gr W w6 := (Gr.refl W).drew.alloc.grown hgr6 (fun y hy => by have := (own0.lt y hy).1; omega))
                refine hK.out (Act.put _ (some 122) v6) _ (by exact keep5 hk0 (by repeat (first | exact Gr.refl _ | refine Gr.alloc ?_ | refine Gr.drew ?_ | refine Gr.trans ?_ (by assumption)))) (fun hHeldN => ?_)
                clear hHeld hK K
                have hHeld := hHeldN
                clear hHeldN
                simp only [Act.put, List.setIfInBounds_toArray, List.set_cons_zero, List.set_cons_succ]
                obtain ⟨a6, c6, hv6, hst6⟩ := own_texts (L := s :: L.take j) (n := 1 + (L.take j).length) (by rw [List.length_cons]; omega) (by rw [List.map_cons, ← stf_map]; exact ho6)
                rw [show (s :: L.take j).length = j + 1 by rw [List.length_cons, hlj]] at hv6
                subst hv6
                have HS6 := Lib.hid hst6
                have HT6 := Lib.hid (HST.out.gr G6)
                clear ho6 hgr6 own0 hst6
                refine wpAnyH_ready (rs := [25]) (by kernel_rfl) (by simp) (AllReadyH.cons rfl (fun K hK => ?_) AllReadyH.nil)
                go_simp
                (go_at_call 16; refine (HS.out _ _ _ _ _ j hj HT6.out HS6.out).mono ?_; rintro f7 w7 ⟨rfl, hg7⟩)
                (try go_wp2_with fail)
                refine hK.out _ _ (by exact keep5 hk0 (by repeat (first | exact Gr.refl _ | refine Gr.alloc ?_ | refine Gr.drew ?_ | refine Gr.trans ?_ (by assumption)))) (fun hHeldN => ?_)
                clear hHeld hK K
                have hHeld := hHeldN
                clear hHeldN
                refine take_yes 26 124 (v := ?_) rfl rfl (by kernel_rfl) (by kernel_rfl) (by kernel_rfl) (fun _ _ _ h => h) (by rfl) ?_ hHeld ?_
                rotate_left
                · (intro w hSw; (try dsimp only at hSw); go_simp; try with_reducible rfl)
                simp only [Act.put, List.setIfInBounds_toArray, List.set_cons_zero, List.set_cons_succ]
                refine take_yes 27 125 (v := ?_) rfl rfl (by kernel_rfl) (by kernel_rfl) (by kernel_rfl) (fun _ _ _ h => h) (by rfl) ?_ hHeld ?_
                rotate_left
                · (intro w hSw; (try dsimp only at hSw); go_simp; try with_reducible rfl)
                simp only [Act.put, List.setIfInBounds_toArray, List.set_cons_zero, List.set_cons_succ]
                refine take_yes 28 126 (v := ?_) rfl rfl (by kernel_rfl) (by kernel_rfl) (by kernel_rfl) (fun _ _ _ h => h) (by rfl) ?_ hHeld ?_
                rotate_left
                · (intro w hSw; (try dsimp only at hSw); go_simp; try with_reducible rfl)
                simp only [Act.put, List.setIfInBounds_toArray, List.set_cons_zero, List.set_cons_succ]
                refine take_yes 29 127 (v := ?_) rfl rfl (by kernel_rfl) (by kernel_rfl) (by kernel_rfl) (fun _ _ _ h => h) (by rfl) ?_ hHeld ?_
                rotate_left
                · (intro w hSw; (try dsimp only at hSw); go_simp; try with_reducible rfl)
                simp only [Act.put, List.setIfInBounds_toArray, List.set_cons_zero, List.set_cons_succ]
                refine take_yes 30 128 (v := ?_) rfl rfl (by kernel_rfl) (by kernel_rfl) (by kernel_rfl) (fun _ _ _ h => h) (by rfl) ?_ hHeld ?_
                rotate_left
                · (intro w hSw; (try dsimp only at hSw); go_simp; try with_reducible rfl)
                simp only [Act.put, List.setIfInBounds_toArray, List.set_cons_zero, List.set_cons_succ]
                refine take_yes 31 129 (v := ?_) rfl rfl (by kernel_rfl) (by kernel_rfl) (by kernel_rfl) (fun _ _ _ h => h) (by rfl) ?_ hHeld ?_
                rotate_left
                · (intro w hSw; (try dsimp only at hSw); go_simp; try with_reducible rfl)
                simp only [Act.put, List.setIfInBounds_toArray, List.set_cons_zero, List.set_cons_succ]
                refine take_yes 32 130 (v := ?_) rfl rfl (by kernel_rfl) (by kernel_rfl) (by kernel_rfl) (fun _ _ _ h => h) (by rfl) ?_ hHeld ?_
                rotate_left
                · (intro w hSw; (try dsimp only at hSw); go_simp; try with_reducible rfl)
                simp only [Act.put, List.setIfInBounds_toArray, List.set_cons_zero, List.set_cons_succ]
                refine take_yes 33 131 (v := ?_) rfl rfl (by kernel_rfl) (by kernel_rfl) (by kernel_rfl) (fun _ _ _ h => h) (by rfl) ?_ hHeld ?_
                rotate_left
                · (intro w hSw; (try dsimp only at hSw); go_simp; try with_reducible rfl)
                simp only [Act.put, List.setIfInBounds_toArray, List.set_cons_zero, List.set_cons_succ]
                refine wpAnyH_ready (rs := [34]) (by kernel_rfl) (by simp) (AllReadyH.cons rfl (fun K hK => ?_) AllReadyH.nil)
                go_simp
                (go_at_call 8; refine (HA.out _ (G4.out.trans (G6.trans hg7))).mono ?_; rintro f8 w8 ⟨rfl, hg8⟩)
                (try go_wp2_with fail)
                refine hK.out _ _ (by exact keep5 hk0 (by repeat (first | exact Gr.refl _ | refine Gr.alloc ?_ | refine Gr.drew ?_ | refine Gr.trans ?_ (by assumption)))) (fun hHeldN => ?_)
                clear hHeld hK K
                have hHeld := hHeldN
                clear hHeldN
                refine take_yes 35 133 (v := ?_) rfl rfl (by kernel_rfl) (by kernel_rfl) (by kernel_rfl) (fun _ _ _ h => h) (by rfl) ?_ hHeld ?_
                rotate_left
                · (intro w hSw; (try dsimp only at hSw); go_simp; try with_reducible rfl)
                simp only [Act.put, List.setIfInBounds_toArray, List.set_cons_zero, List.set_cons_succ]
                refine take_yes 36 6 (v := ?_) rfl rfl (by kernel_rfl) (by kernel_rfl) (by kernel_rfl) (fun _ _ _ h => h) (by rfl) ?_ hHeld ?_
                rotate_left
                · (intro w hSw; (try dsimp only at hSw); go_simp; try with_reducible rfl)
                simp only [Act.put, List.setIfInBounds_toArray, List.set_cons_zero, List.set_cons_succ]
                refine wpAnyH_done (by kernel_rfl) ?_ _
                go_wp2
                go_ret
                exact ⟨rfl, G4.out.trans (G6.trans (hg7.trans hg8))⟩
            · have hb2 : ¬ (j : Int) + 1 < ((L.length + 1 : Nat) : Int) := by omega
              have hor : j = L.length ∨ q < eR F L (j + 1) := Or.inl (by omega)
              have hlj : (L.take j).length = j := by rw [List.length_take]; omega
              have hlow := slice_lowS ad L.length cap j hj hcap
              go_wp2_with fail
              refine (HL2.out q j (by omega) (by omega) hj hjq hor _ _ (HG.out.trans (by repeat (first | exact Gr.refl _ | refine Gr.alloc ?_ | refine Gr.drew ?_ | refine Gr.trans ?_ (by assumption)))) (by exact row_new1 _ ⟨5, S.extract 0 q, 0⟩ _ _ (by simp))).mono ?_
              rintro f3 w3 ⟨ab, cb, da, cd, rfl, hst, hg3⟩
              have G3 := Lib.hid (HG.out.trans ((by repeat (first | exact Gr.refl _ | refine Gr.alloc ?_ | refine Gr.drew ?_ | refine Gr.trans ?_ hg3)) : Gr wl w3))
              have hej3 := Gr.keep (w1 := w3) ((by repeat (first | exact Gr.refl _ | refine Gr.alloc ?_ | refine Gr.drew ?_ | refine Gr.trans ?_ hg3)) : Gr wl w3) hej
              have BX := Bx4.new w3 (.int .i64 5) (.int .i64 (eR F L j : Int)) (.slice ab (j + 1) cb) (.slice da 0 cd) 37 _ rfl
              have hk0 : (w3.alloc (.cells #[.int .i64 5, .int .i64 (eR F L j : Int), .slice ab (j + 1) cb, .slice da 0 cd] 37)).cell? ⟨w3.heap.size, 0, none⟩ = some (.int .i64 5) ∧ (w3.alloc (.cells #[.int .i64 5, .int .i64 (eR F L j : Int), .slice ab (j + 1) cb, .slice da 0 cd] 37)).cell? ⟨w3.heap.size, 1, none⟩ = some (.int .i64 (eR F L j : Int)) ∧ (w3.alloc (.cells #[.int .i64 5, .int .i64 (eR F L j : Int), .slice ab (j + 1) cb, .slice da 0 cd] 37)).cell? ⟨w3.heap.size, 2, none⟩ = some (.slice ab (j + 1) cb) ∧ (w3.alloc (.cells #[.int .i64 5, .int .i64 (eR F L j : Int), .slice ab (j + 1) cb, .slice da 0 cd] 37)).cell? ⟨w3.heap.size, 3, none⟩ = some (.slice da 0 cd) ∧ (w3.alloc (.cells #[.int .i64 5, .int .i64 (eR F L j : Int), .slice ab (j + 1) cb, .slice da 0 cd] 37)).cell? ⟨eb, eo + j, none⟩ = some (.int .i64 (eR F L j : Int)) := ⟨BX.c0, BX.c1, BX.c2, BX.c3, (Gr.refl _).alloc.keep hej3⟩
              have HST := Lib.hid (hst.gr (Gr.refl _).alloc : StrsAt (w3.alloc (.cells #[.int .i64 5, .int .i64 (eR F L j : Int), .slice ab (j + 1) cb, .slice da 0 cd] 37)) ab (s :: L.take j))
              have hR3 := Lib.hid (HR.out.gr G3.out.alloc : StrsAt (w3.alloc (.cells #[.int .i64 5, .int .i64 (eR F L j : Int), .slice ab (j + 1) cb, .slice da 0 cd] 37)) ad L)
              have G4 := Lib.hid (G3.out.alloc : Gr w (w3.alloc (.cells #[.int .i64 5, .int .i64 (eR F L j : Int), .slice ab (j + 1) cb, .slice da 0 cd] 37)))
              have hs4 : (w3.alloc (.cells #[.int .i64 5, .int .i64 (eR F L j : Int), .slice ab (j + 1) cb, .slice da 0 cd] 37)).heap.size = w3.heap.size + 1 := by simp
              clear hg3 hst BX hej3
              go_upto_region 21 with fail
              obtain ⟨W, hW⟩ : ∃ x, x = w3.alloc (.cells #[.int .i64 5, .int .i64 (eR F L j : Int), .slice ab (j + 1) cb, .slice da 0 cd] 37) := ⟨_, rfl⟩
              rw [← hW] at hk0 HST hR3 G4 hs4 ⊢
              clear hW
              have hjl1 : (j : Int) < (L.length : Int) + 1 := by omega
              refine wp_region_held_drew (S := (fun w' => w'.cell? ⟨w3.heap.size, 0, none⟩ = some (.int .i64 5) ∧ w'.cell? ⟨w3.heap.size, 1, none⟩ = some (.int .i64 (eR F L j : Int)) ∧ w'.cell? ⟨w3.heap.size, 2, none⟩ = some (.slice ab (j + 1) cb) ∧ w'.cell? ⟨w3.heap.size, 3, none⟩ = some (.slice da 0 cd) ∧ w'.cell? ⟨eb, eo + j, none⟩ = some (.int .i64 (eR F L j : Int)))) (by kernel_rfl) (by exact keep5 hk0 (by repeat (first | exact Gr.refl _ | refine Gr.alloc ?_ | refine Gr.drew ?_ | refine Gr.trans ?_ (by assumption)))) (fun hHeld => ?_)
              refine take_yes 0 98 (v := ?_) rfl rfl (by kernel_rfl) (by kernel_rfl) (by kernel_rfl) (fun _ _ _ h => h) (by rfl) ?_ hHeld ?_
              rotate_left
              · (intro w hSw; (try dsimp only at hSw); go_simp; try with_reducible rfl)
              simp only [Act.put, List.setIfInBounds_toArray, List.set_cons_zero, List.set_cons_succ]
              refine take_yes 1 99 (v := ?_) rfl rfl (by kernel_rfl) (by kernel_rfl) (by kernel_rfl) (fun _ _ _ h => h) (by rfl) ?_ hHeld ?_
              rotate_left
              · (intro w hSw; (try dsimp only at hSw); go_simp; try with_reducible rfl)
              simp only [Act.put, List.setIfInBounds_toArray, List.set_cons_zero, List.set_cons_succ]
              refine take_yes 2 100 (v := ?_) rfl rfl (by kernel_rfl) (by kernel_rfl) (by kernel_rfl) (fun _ _ _ h => h) (by rfl) ?_ hHeld ?_
              rotate_left
              · (intro w hSw; (try dsimp only at hSw); go_simp; try with_reducible rfl)
              simp only [Act.put, List.setIfInBounds_toArray, List.set_cons_zero, List.set_cons_succ]
              refine take_yes 3 101 (v := ?_) rfl rfl (by kernel_rfl) (by kernel_rfl) (by kernel_rfl) (fun _ _ _ h => h) (by rfl) ?_ hHeld ?_
              rotate_left
              · (intro w hSw; (try dsimp only at hSw); go_simp; try with_reducible rfl)
              simp only [Act.put, List.setIfInBounds_toArray, List.set_cons_zero, List.set_cons_succ]
              refine take_yes 4 102 (v := ?_) rfl rfl (by kernel_rfl) (by kernel_rfl) (by kernel_rfl) (fun _ _ _ h => h) (by rfl) ?_ hHeld ?_
              rotate_left
              · (intro w hSw; (try dsimp only at hSw); go_simp; try with_reducible rfl)
              simp only [Act.put, List.setIfInBounds_toArray, List.set_cons_zero, List.set_cons_succ]
              refine take_yes 5 103 (v := ?_) rfl rfl (by kernel_rfl) (by kernel_rfl) (by kernel_rfl) (fun _ _ _ h => h) (by rfl) ?_ hHeld ?_
              rotate_left
              · (intro w hSw; (try dsimp only at hSw); go_simp; try with_reducible rfl)
              simp only [Act.put, List.setIfInBounds_toArray, List.set_cons_zero, List.set_cons_succ]
              refine take_yes 6 104 (v := ?_) rfl rfl (by kernel_rfl) (by kernel_rfl) (by kernel_rfl) (fun _ _ _ h => h) (by rfl) ?_ hHeld ?_
              rotate_left
              · (intro w hSw; (try dsimp only at hSw); go_simp; try with_reducible rfl)
              simp only [Act.put, List.setIfInBounds_toArray, List.set_cons_zero, List.set_cons_succ]
              refine take_yes 7 105 (v := ?_) rfl rfl (by kernel_rfl) (by kernel_rfl) (by kernel_rfl) (fun _ _ _ h => h) (by rfl) ?_ hHeld ?_
              rotate_left
              · (intro w hSw; (try dsimp only at hSw); go_simp; try with_reducible rfl)
              simp only [Act.put, List.setIfInBounds_toArray, List.set_cons_zero, List.set_cons_succ]
              refine take_yes 8 106 (v := ?_) rfl rfl (by kernel_rfl) (by kernel_rfl) (by kernel_rfl) (fun _ _ _ h => h) (by rfl) ?_ hHeld ?_
              rotate_left
              · (intro w hSw; (try dsimp only at hSw); go_simp; try with_reducible rfl)
              simp only [Act.put, List.setIfInBounds_toArray, List.set_cons_zero, List.set_cons_succ]
              refine take_yes 9 107 (v := ?_) rfl rfl (by kernel_rfl) (by kernel_rfl) (by kernel_rfl) (fun _ _ _ h => h) (by rfl) ?_ hHeld ?_
              rotate_left
              · (intro w hSw; (try dsimp only at hSw); go_simp; try with_reducible rfl)
              simp only [Act.put, List.setIfInBounds_toArray, List.set_cons_zero, List.set_cons_succ]
              refine take_yes 10 108 (v := ?_) rfl rfl (by kernel_rfl) (by kernel_rfl) (by kernel_rfl) (fun _ _ _ h => h) (by rfl) ?_ hHeld ?_
              rotate_left
              · (intro w hSw; (try dsimp only at hSw); go_simp; try with_reducible rfl)
              simp only [Act.put, List.setIfInBounds_toArray, List.set_cons_zero, List.set_cons_succ]
              refine take_yes 11 109 (v := ?_) rfl rfl (by kernel_rfl) (by kernel_rfl) (by kernel_rfl) (fun _ _ _ h => h) (by rfl) ?_ hHeld ?_
              rotate_left
              · (intro w hSw; (try dsimp only at hSw); go_simp; try with_reducible rfl)
              simp only [Act.put, List.setIfInBounds_toArray, List.set_cons_zero, List.set_cons_succ]
              refine take_yes 12 110 (v := ?_) rfl rfl (by kernel_rfl) (by kernel_rfl) (by kernel_rfl) (fun _ _ _ h => h) (by rfl) ?_ hHeld ?_
              rotate_left
              · (intro w hSw; (try dsimp only at hSw); go_simp; try with_reducible rfl)
              simp only [Act.put, List.setIfInBounds_toArray, List.set_cons_zero, List.set_cons_succ]
              refine take_yes 13 111 (v := ?_) rfl rfl (by kernel_rfl) (by kernel_rfl) (by kernel_rfl) (fun _ _ _ h => h) (by rfl) ?_ hHeld ?_
              rotate_left
              · (intro w hSw; (try dsimp only at hSw); go_simp; try with_reducible rfl)
              simp only [Act.put, List.setIfInBounds_toArray, List.set_cons_zero, List.set_cons_succ]
              refine take_yes 14 112 (v := ?_) rfl rfl (by kernel_rfl) (by kernel_rfl) (by kernel_rfl) (fun _ _ _ h => h) (by rfl) ?_ hHeld ?_
              rotate_left
              · (intro w hSw; (try dsimp only at hSw); go_simp; try with_reducible rfl)
              simp only [Act.put, List.setIfInBounds_toArray, List.set_cons_zero, List.set_cons_succ]
              refine take_yes 15 113 (v := ?_) rfl rfl (by kernel_rfl) (by kernel_rfl) (by kernel_rfl) (fun _ _ _ h => h) (by rfl) ?_ hHeld ?_
              rotate_left
              · (intro w hSw; (try dsimp only at hSw); go_simp; try with_reducible rfl)
              simp only [Act.put, List.setIfInBounds_toArray, List.set_cons_zero, List.set_cons_succ]
              refine take_yes 16 114 (v := ?_) rfl rfl (by kernel_rfl) (by kernel_rfl) (by kernel_rfl) (fun _ _ _ h => h) (by rfl) ?_ hHeld ?_
              rotate_left
              · (intro w hSw; (try dsimp only at hSw); go_simp; try with_reducible rfl)
              simp only [Act.put, List.setIfInBounds_toArray, List.set_cons_zero, List.set_cons_succ]
              refine take_yes 17 115 (v := ?_) rfl rfl (by kernel_rfl) (by kernel_rfl) (by kernel_rfl) (fun _ _ _ h => h) (by rfl) ?_ hHeld ?_
              rotate_left
              · (intro w hSw; (try dsimp only at hSw); go_simp; try with_reducible rfl)
              simp only [Act.put, List.setIfInBounds_toArray, List.set_cons_zero, List.set_cons_succ]
              refine take_yes 18 116 (v := ?_) rfl rfl (by kernel_rfl) (by kernel_rfl) (by kernel_rfl) (fun _ _ _ h => h) (by rfl) ?_ hHeld ?_
              rotate_left
              · (intro w hSw; (try dsimp only at hSw); go_simp; try with_reducible rfl)
              simp only [Act.put, List.setIfInBounds_toArray, List.set_cons_zero, List.set_cons_succ]
              refine take_yes 19 117 (v := ?_) rfl rfl (by kernel_rfl) (by kernel_rfl) (by kernel_rfl) (fun _ _ _ h => h) (by rfl) ?_ hHeld ?_
              rotate_left
              · (intro w hSw; (try dsimp only at hSw); go_simp; try with_reducible rfl)
              simp only [Act.put, List.setIfInBounds_toArray, List.set_cons_zero, List.set_cons_succ]
              refine take_yes 21 119 (v := ?_) rfl rfl (by kernel_rfl) (by kernel_rfl) (by kernel_rfl) (fun _ _ _ h => h) (by rfl) ?_ hHeld ?_
              rotate_left
              · (intro w hSw; (try dsimp only at hSw); go_simp; try with_reducible rfl)
              simp only [Act.put, List.setIfInBounds_toArray, List.set_cons_zero, List.set_cons_succ]
              refine take_yes 22 120 (v := ?_) rfl rfl (by kernel_rfl) (by kernel_rfl) (by kernel_rfl) (fun _ _ _ h => h) (by rfl) ?_ hHeld ?_
              rotate_left
              · (intro w hSw; (try dsimp only at hSw); go_simp; try with_reducible rfl)
              simp only [Act.put, List.setIfInBounds_toArray, List.set_cons_zero, List.set_cons_succ]
              refine take_yes 23 121 (v := ?_) rfl rfl (by kernel_rfl) (by kernel_rfl) (by kernel_rfl) (fun _ _ _ h => h) (by rfl) ?_ hHeld ?_
              rotate_left
              · (intro w hSw; (try dsimp only at hSw); go_simp; try with_reducible rfl)
              simp only [Act.put, List.setIfInBounds_toArray, List.set_cons_zero, List.set_cons_succ]
              refine wpAnyH_ready (rs := [20]) (by kernel_rfl) (by simp) (AllReadyH.cons rfl (fun K hK => ?_) AllReadyH.nil)
              go_simp
              refine hK.out _ _ (by exact keep5 hk0 (by repeat (first | exact Gr.refl _ | refine Gr.alloc ?_ | refine Gr.drew ?_ | refine Gr.trans ?_ (by assumption)))) (fun hHeldN => ?_)
              clear hHeld hK K
              have hHeld := hHeldN
              clear hHeldN
              have own0 := own_one W.drew (w3.heap.size + 1) (.string s) 9 (w3.heap.size + 1) (by show w3.heap.size + 1 = W.heap.size; omega) (by show w3.heap.size + 1 ≤ W.heap.size; omega)
              refine wpAnyH_ready (rs := [24]) (by kernel_rfl) (by simp) (AllReadyH.cons rfl (fun K hK => ?_) AllReadyH.nil)
              (refine step_append_rowG (by rfl) _ _ 22 (by rfl) (w3.heap.size + 1) 9 j0 (.string ⟨#[]⟩) 1 16 Tryd.underlying22 hj0 hy0 hy1 hy2 rfl (by decide) _ 1 [.string s] (by rfl) own0 stf_len (L.take j) ad cap (by rw [hlj]; rfl) hnil (stf_row ((hR3.out.take j).gr (Gr.refl W).drew.alloc)) (stf_one _) (by unfold maxLen; omega) (by omega) (by show w3.heap.size + 1 ≤ (W.drew.alloc _).heap.size; simp; omega) ?_; intro v6 w6 ho6 hgr6; have G6 : Gr W w6 := (Gr.refl W).drew.alloc.grown hgr6 (fun y hy => by have := (own0.lt y hy).1; omega))
              refine hK.out (Act.put _ (some 122) v6) _ (by exact keep5 hk0 (by repeat (first | exact Gr.refl _ | refine Gr.alloc ?_ | refine Gr.drew ?_ | refine Gr.trans ?_ (by assumption)))) (fun hHeldN => ?_)
              clear hHeld hK K
              have hHeld := hHeldN
              clear hHeldN
              simp only [Act.put, List.setIfInBounds_toArray, List.set_cons_zero, List.set_cons_succ]
              obtain ⟨a6, c6, hv6, hst6⟩ := own_texts (L := s :: L.take j) (n := 1 + (L.take j).length) (by rw [List.length_cons]; omega) (by rw [List.map_cons, ← stf_map]; exact ho6)
              rw [show (s :: L.take j).length = j + 1 by rw [List.length_cons, hlj]] at hv6
              subst hv6
              have HS6 := Lib.hid hst6
              have HT6 := Lib.hid (HST.out.gr G6)
              clear ho6 hgr6 own0 hst6
              refine wpAnyH_ready (rs := [25]) (by kernel_rfl) (by simp) (AllReadyH.cons rfl (fun K hK => ?_) AllReadyH.nil)
              go_simp
              (go_at_call 16; refine (HS.out _ _ _ _ _ j hj HT6.out HS6.out).mono ?_; rintro f7 w7 ⟨rfl, hg7⟩)
              (try go_wp2_with fail)
              refine hK.out _ _ (by exact keep5 hk0 (by repeat (first | exact Gr.refl _ | refine Gr.alloc ?_ | refine Gr.drew ?_ | refine Gr.trans ?_ (by assumption)))) (fun hHeldN => ?_)
              clear hHeld hK K
              have hHeld := hHeldN
              clear hHeldN
              refine take_yes 26 124 (v := ?_) rfl rfl (by kernel_rfl) (by kernel_rfl) (by kernel_rfl) (fun _ _ _ h => h) (by rfl) ?_ hHeld ?_
              rotate_left
              · (intro w hSw; (try dsimp only at hSw); go_simp; try with_reducible rfl)
              simp only [Act.put, List.setIfInBounds_toArray, List.set_cons_zero, List.set_cons_succ]
              refine take_yes 27 125 (v := ?_) rfl rfl (by kernel_rfl) (by kernel_rfl) (by kernel_rfl) (fun _ _ _ h => h) (by rfl) ?_ hHeld ?_
              rotate_left
              · (intro w hSw; (try dsimp only at hSw); go_simp; try with_reducible rfl)
              simp only [Act.put, List.setIfInBounds_toArray, List.set_cons_zero, List.set_cons_succ]
              refine take_yes 28 126 (v := ?_) rfl rfl (by kernel_rfl) (by kernel_rfl) (by kernel_rfl) (fun _ _ _ h => h) (by rfl) ?_ hHeld ?_
              rotate_left
              · (intro w hSw; (try dsimp only at hSw); go_simp; try with_reducible rfl)
              simp only [Act.put, List.setIfInBounds_toArray, List.set_cons_zero, List.set_cons_succ]
              refine take_yes 29 127 (v := ?_) rfl rfl (by kernel_rfl) (by kernel_rfl) (by kernel_rfl) (fun _ _ _ h => h) (by rfl) ?_ hHeld ?_
              rotate_left
              · (intro w hSw; (try dsimp only at hSw); go_simp; try with_reducible rfl)
              simp only [Act.put, List.setIfInBounds_toArray, List.set_cons_zero, List.set_cons_succ]
              refine take_yes 30 128 (v := ?_) rfl rfl (by kernel_rfl) (by kernel_rfl) (by kernel_rfl) (fun _ _ _ h => h) (by rfl) ?_ hHeld ?_
              rotate_left
              · (intro w hSw; (try dsimp only at hSw); go_simp; try with_reducible rfl)
              simp only [Act.put, List.setIfInBounds_toArray, List.set_cons_zero, List.set_cons_succ]
              refine take_yes 31 129 (v := ?_) rfl rfl (by kernel_rfl) (by kernel_rfl) (by kernel_rfl) (fun _ _ _ h => h) (by rfl) ?_ hHeld ?_
              rotate_left
              · (intro w hSw; (try dsimp only at hSw); go_simp; try with_reducible rfl)
              simp only [Act.put, List.setIfInBounds_toArray, List.set_cons_zero, List.set_cons_succ]
              refine take_yes 32 130 (v := ?_) rfl rfl (by kernel_rfl) (by kernel_rfl) (by kernel_rfl) (fun _ _ _ h => h) (by rfl) ?_ hHeld ?_
              rotate_left
              · (intro w hSw; (try dsimp only at hSw); go_simp; try with_reducible rfl)
              simp only [Act.put, List.setIfInBounds_toArray, List.set_cons_zero, List.set_cons_succ]
              refine take_yes 33 131 (v := ?_) rfl rfl (by kernel_rfl) (by kernel_rfl) (by kernel_rfl) (fun _ _ _ h => h) (by rfl) ?_ hHeld ?_
              rotate_left
              · (intro w hSw; (try dsimp only at hSw); go_simp; try with_reducible rfl)
              simp only [Act.put, List.setIfInBounds_toArray, List.set_cons_zero, List.set_cons_succ]
              refine wpAnyH_ready (rs := [34]) (by kernel_rfl) (by simp) (AllReadyH.cons rfl (fun K hK => ?_) AllReadyH.nil)
              go_simp
              (go_at_call 8; refine (HA.out _ (G4.out.trans (G6.trans hg7))).mono ?_; rintro f8 w8 ⟨rfl, hg8⟩)
              (try go_wp2_with fail)
              refine hK.out _ _ (by exact keep5 hk0 (by repeat (first | exact Gr.refl _ | refine Gr.alloc ?_ | refine Gr.drew ?_ | refine Gr.trans ?_ (by assumption)))) (fun hHeldN => ?_)
              clear hHeld hK K
              have hHeld := hHeldN
              clear hHeldN
              refine take_yes 35 133 (v := ?_) rfl rfl (by kernel_rfl) (by kernel_rfl) (by kernel_rfl) (fun _ _ _ h => h) (by rfl) ?_ hHeld ?_
              rotate_left
              · (intro w hSw; (try dsimp only at hSw); go_simp; try with_reducible rfl)
              simp only [Act.put, List.setIfInBounds_toArray, List.set_cons_zero, List.set_cons_succ]
              refine take_yes 36 6 (v := ?_) rfl rfl (by kernel_rfl) (by kernel_rfl) (by kernel_rfl) (fun _ _ _ h => h) (by rfl) ?_ hHeld ?_
              rotate_left
              · (intro w hSw; (try dsimp only at hSw); go_simp; try with_reducible rfl)
              simp only [Act.put, List.setIfInBounds_toArray, List.set_cons_zero, List.set_cons_succ]
              refine wpAnyH_done (by kernel_rfl) ?_ _
              go_wp2
              go_ret
              exact ⟨rfl, G4.out.trans (G6.trans (hg7.trans hg8))⟩

set_option maxHeartbeats 4000000 in
set_option maxRecDepth 100000 in
theorem segmentReads_walk (s : ByteArray) (L : List ByteArray) (ad : Option Addr) (cap : Nat) (c : Int) (w : World) (hT : Tab w) (hs : s.size ≤ 140737488355328) (hL : StrsAt w ad L) (hn : L.length ≤ 9223372036854775807) (hsz : ∀ s ∈ L, s.size ≤ 9223372036854775807) (hcap : L.length ≤ cap) (hnil : ad = none → cap = 0) :
    Calls Tryd.prog 5 #[.string s, .slice ad L.length cap, .int .i64 c] w fun e w' => e = .returned (.bool true) ∧ Gr w w' := by
  have HA : Hid (∀ w', Gr w w' → Calls Tryd.prog 8 #[] w' fun e w2 => e = .returned (.bool true) ∧ Gr w' w2) := fun w' g => awake16_any w' (hT.gr g)
  have H0 : Hid (∀ w', Gr w w' → Calls Tryd.prog 7 #[.slice ad L.length cap] w' fun e w2 => e = .returned (.bool (Pk.small L)) ∧ w2 = w') := fun w' g => small_any L ad cap w' (hL.gr g) hn hsz
  rcases hsm : Pk.small L with _ | _
  · rw [hsm] at H0
    clear hT hL hsz hsm
    go_enter Tryd.func5, Tryd.ntmps5
    go_wp2_with fail
    refine (H0.out _ (by repeat (first | exact Gr.refl _ | refine Gr.alloc ?_ | refine Gr.drew ?_ | refine Gr.trans ?_ (by assumption)))).mono ?_
    rintro e0 w0 ⟨rfl, hw0⟩; obtain rfl := hw0.symm
    go_wp2_with fail
    refine (HA.out _ (by repeat (first | exact Gr.refl _ | refine Gr.alloc ?_ | refine Gr.drew ?_ | refine Gr.trans ?_ (by assumption)))).mono ?_
    rintro e9 w9 ⟨rfl, hg9⟩
    go_wp2
    go_ret
    exact ⟨rfl, (by repeat (first | exact Gr.refl _ | refine Gr.alloc ?_ | refine Gr.drew ?_ | refine Gr.trans ?_ (by assumption)))⟩
  · rw [hsm] at H0
    obtain ⟨l1, l2, l3⟩ := Sg.small_frs L hsm
    by_cases htb : s.size ≤ 30000
    · have hsl : s.data.toList.length = s.size := by simp
      have hFl : (Sl.frame 3 s.data.toList).length ≤ 30020 := by
        have h1 := Sl.frame_len 3 s.data.toList
        have h2 := Pk.num_len s.data.toList.length
        omega
      refine reads_core s L ad cap c w (Sl.frame 3 s.data.toList) HA H0 ?_ ?_ ?_ ?_ hL htb hFl l2 l1 hcap hnil
      · intro w' g
        have := begin_any s w' (hT.gr g) (by omega)
        rw [Sg.seal3, if_pos htb] at this
        exact this
      · intro x w' b hx g hc
        exact next_any [x] (some ⟨b, 0, none⟩) 1 w' (hT.gr g) (strsAt1 hc) (by simp) (by
          intro y hy
          simp at hy
          subst hy
          exact hsz y hx)
      · intro hfit q k h1 h2 hk h3 h4 w' b g hrow
        have hgl : ∀ x ∈ L.map (fun s => s.data.toList), x.length ≤ 30000 := by
          intro x hx
          obtain ⟨y, hy, rfl⟩ := List.mem_map.1 hx
          have := List.all_eq_true.1 hfit y hy
          simpa using this
        have hft : ∀ m, Sg.fit (L.take m) = true := fun m => List.all_eq_true.2 fun y hy => List.all_eq_true.1 hfit y (List.mem_of_mem_take hy)
        have hct : ∀ m, Sl.cat 3 (s.data.toList :: (L.map (fun s => s.data.toList)).take m) = Sl.frame 3 s.data.toList ++ Sg.frs (L.take m) := by
          intro m
          rw [Sl.cat_cons, ← List.map_take, Sg.frs_cat _ (hft m)]
        have hca : Sl.cat 3 (s.data.toList :: L.map (fun s => s.data.toList)) = Sl.frame 3 s.data.toList ++ Sg.frs L := by
          rw [Sl.cat_cons, Sg.frs_cat L hfit]
        have hlk := Sg.look_cut 5 0 s.data.toList (L.map (fun s => s.data.toList)) (by omega) hgl q k h1 (by rw [hca, List.length_append]; exact h2) (by rw [List.length_map]; exact hk) (by rw [hct, List.length_append]; exact h3) (by rw [hct, List.length_append, List.length_map]; exact h4)
        rw [hca, hct, List.length_append] at hlk
        have hex : (⟨(Sl.frame 3 s.data.toList ++ Sg.frs L).toArray⟩ : ByteArray).extract 0 q = ⟨((Sl.frame 3 s.data.toList ++ Sg.frs L).take q).toArray⟩ := arr_ext _ _ (by rw [ext0_data])
        rw [← hex] at hlk
        have := look_any _ (some ⟨b, 0, none⟩) 1 w' (hT.gr g) ⟨hrow, by simp, by simp, by
          intro f hf
          simp only [List.mem_singleton] at hf
          subst hf
          refine ⟨by simp, by simp, ?_⟩
          show ((⟨(Sl.frame 3 s.data.toList ++ Sg.frs L).toArray⟩ : ByteArray).extract 0 q).size ≤ 300000
          rw [hex]
          simp [ByteArray.size]
          omega⟩
        rw [hlk] at this
        refine this.mono ?_
        rintro e w2 ⟨ab, cb, da, cd, rfl, q1, q2, q3⟩
        have hlen : (s.data.toList :: (L.map (fun s => s.data.toList)).take k).length = k + 1 := by rw [List.length_cons, List.length_take, List.length_map]; omega
        refine ⟨ab, cb, da, cd, ?_, ?_, q3⟩
        · show Ending.returned (.tuple #[.agg #[.int .i64 5, .int .i64 _, .slice ab (s.data.toList :: (L.map (fun s => s.data.toList)).take k).length cb, .slice da 0 cd], .int .i64 0]) = _
          rw [hlen]
          rfl
        · have q1' : StrsAt w2 ab ((s.data.toList :: (L.map (fun s => s.data.toList)).take k).map mkT) := q1
          rw [List.map_cons, ← List.map_take, map_back, show mkT s.data.toList = s from mk_data s] at q1'
          exact q1'
      · intro w' a1 a2 c1 c2 k hk h1 h2
        have hlen : (s :: L.take k).length = k + 1 := by rw [List.length_cons, List.length_take]; omega
        have := same16_any (s :: L.take k) a1 a2 c1 c2 w' (by rw [hlen]; omega) h1 h2
        rw [hlen] at this
        exact this
    · have e1 : decide ((30000 : Int) < (s.size : Int)) = true := decide_eq_true (by omega)
      clear hT hL hsz hsm l1 l3 hnil
      go_enter Tryd.func5, Tryd.ntmps5
      go_wp2_with fail
      refine (H0.out _ (by repeat (first | exact Gr.refl _ | refine Gr.alloc ?_ | refine Gr.drew ?_ | refine Gr.trans ?_ (by assumption)))).mono ?_
      rintro e0 w0 ⟨rfl, hw0⟩; obtain rfl := hw0.symm
      go_wp2_with fail
      refine (HA.out _ (by repeat (first | exact Gr.refl _ | refine Gr.alloc ?_ | refine Gr.drew ?_ | refine Gr.trans ?_ (by assumption)))).mono ?_
      rintro e9 w9 ⟨rfl, hg9⟩
      go_wp2
      go_ret
      exact ⟨rfl, (by repeat (first | exact Gr.refl _ | refine Gr.alloc ?_ | refine Gr.drew ?_ | refine Gr.trans ?_ (by assumption)))⟩

set_option maxRecDepth 100000 in
theorem segmentReads_lifted (os : Os) (started : os.Started) (H : Type) (enc : TypeId × Value → H) :
    ReturnsInHanded {} Tryd.checked os 5 .any (fun w args => (Rows.segmentReadsSpec.pre enc Tryd.prog Tryd.f5 [] false w args ∧ laidMetH Tryd.prog laidL w) ∧ sizedMet enc Tryd.prog Tryd.f5 (OpenSpec.ofChange Rows.segmentReadsSpec) false w args)
      (Rows.segmentReadsSpec.post enc Tryd.prog Tryd.f5 false true false false) := by
  refine returnsInHanded_of_change_and (C := Tryd.checked) (X := fun w _ => laidMetH Tryd.prog laidL w) (fun _ _ _ hh h => h.of_heap hh) own2 started (by kernel_rfl) Tryd.func5
    (ChangeSpec.witness_shaped (enc := enc) (C := Tryd.checked) (os := os) (X := fun w _ => laidMetH Tryd.prog laidL w) false (World.doorLaid Tryd.prog 400 os) #[.string ⟨#[]⟩, .slice none 0 0, .int .i64 0] 8 rfl (World.shaped_of_RefB (by kernel_rfl) (by kernel_rfl)) (by kernel_rfl) (by kernel_rfl) (by kernel_rfl) (door_met os _)) ?_
  intro W base args ds gs before hval0 hW _ hsz0 hL _
  have hval : ∀ (j : Nat) t v, Tryd.f5.params[j]? = some t → args[j]? = some v → Value.okWide Tryd.prog W .any base t v := hval0
  have hsz : (DataW.weightsEach Tryd.prog (Tryd.f5.params.toList ++ Rows.segmentReadsSpec.plain.varTypes Tryd.prog) (ds ++ gs)).all (· ≤ reachBytes) = true := hsz0
  have hW' := hW
  obtain ⟨p, q, hA0, hV, rfl, hfz, hnd⟩ := hW
  have hA : DataW.TrodAll enc Tryd.prog W 0 (fun _ => true) true Tryd.f5.params.toList args.toList ds p := hA0
  rw [Tryd.params5] at hA hval hsz
  obtain ⟨v0, v1, v2, d0, d1, d2, p0, p1, p2, rfl, rfl, rfl, h0, h1, h2⟩ := trodAll_three hA
  obtain ⟨rfl, rfl⟩ := trodVars_none hV
  have k1 := h1
  have lt1 : ∀ x ∈ p1, x.block < W.heap.size := by obtain ⟨m, hm⟩ := k1; exact DataW.trod_lt m _ _ _ hm
  obtain ⟨a0, rfl, rfl, rfl, wa0⟩ := open_string Tryd.underlying9 (hval 0 9 v0 rfl rfl) h0
  have hr0 : a0.size ≤ 140737488355328 := by
    have hr := sized_string hsz (j := 0) (t := 9) rfl rfl
    have : a0.data.toList.length = a0.size := by simp
    simp only [reachBytes] at hr
    omega
  obtain ⟨ad1, cap1, L1, rfl, hL1, hn1, hz1, hcap1, hnil1⟩ := open_strs2 (hval 1 22 v1 rfl rfl) h1
  obtain ⟨a2, rfl, rfl, rfl, wa2⟩ := open_int Tryd.underlying3 (hval 2 3 v2 rfl rfl) h2
  clear hA0 hval0
  have hT := tab_of_laid hL
  refine (segmentReads_walk a0 L1 ad1 cap1 a2 W hT hr0 hL1 hn1 hz1 hcap1 hnil1).mono fun e W' ⟨he, hg⟩ => ?_
  subst he
  exact ⟨_, rfl, _, _, _, [], _, [], hW', trodAll_mk1 (shut_bool Tryd.underlying4 _), trodAll_mk3 (shut_string Tryd.underlying9 wa0) (Below.trod laidOut2 (by kernel_rfl) (of_decide_eq_true (by kernel_rfl)) k1 hg.below lt1) (shut_int Tryd.underlying3 wa2), rfl, hg.below.frame _, fun h => by cases h⟩

theorem segmentReads_holds : Rows.SegmentReadsSaid :=
  OpenClaim.holds_of_wide 5 Tryd.f5 rfl rfl rfl rfl rfl rfl rfl ⟨rfl, rfl, rfl, rfl, rfl⟩ rfl rfl rfl rfl rfl (by kernel_rfl) Tryd.func5 (by kernel_rfl)
    (of_decide_eq_true (by kernel_rfl)) (by unfold Func.isWrapper; first | (rw [if_pos (by decide +kernel)]; kernel_rfl) | (rw [if_neg (by decide +kernel)]; exact ⟨rfl, rfl⟩))
    (fun os started H enc _ => segmentReads_lifted os started H enc)

theorem segmentReads_card_holds : Rows.SegmentReadsCardSaid :=
  Claim7.holds_tied_plain_at .later [] [.data] true (true, "bd5fecf5b305d5c900338b8eb8152168445dc55772493c5ce2fd1accb5df91ff") false
    segmentReads_holds (fun _ h => by cases h) (by kernel_rfl) (fun _ h => by cases h) segmentReads_row_tie rfl ⟨rfl, rfl⟩ (by kernel_rfl) rfl
    (fun f fn hf hfn => by
      obtain rfl : f = 5 := Option.some.inj ((show Tryd.prog.funcNamed "entente/ententelaw16.SegmentReads" = some 5 by kernel_rfl).symm.trans hf) |>.symm
      obtain rfl : fn = Tryd.f5 := (Option.some.inj (Tryd.func5.symm.trans hfn)).symm
      exact ⟨by kernel_rfl, fun j t ht => by
        rw [Tryd.params5] at ht
        have hm : t ∈ [9, 22, 3] := by simpa using Array.mem_of_getElem? ht
        have hall : ([9, 22, 3].all fun u => !Tryd.prog.wantsStandIn u) = true := by kernel_rfl
        exact (show Tryd.prog.wantsStandIn t = false by simpa using List.all_eq_true.1 hall t hm)⟩)
    (by kernel_rfl)
end Go.Proofs.YtoeibjflaiiljaaDoor
