/- ledger: what is pending by what the accounts say. -/
import Derived.Test.YtiakajheoajepaaArrA
import Derived.Test.YtiakajheoajepaaAccA
namespace Go.Proofs.Ytiakajheoajepaa
open Go.RowKit
open Led (Acc Mk)

def row4 (x : Acc) (i : Nat) : Int := match i with | 0 => x.b | 1 => x.c | 2 => x.y | _ => x.z
def wrF (A : List Acc) (j : Nat) : Int := match A[j / 4]? with | some x => row4 x (j % 4) | none => 0
def wrK (A : List Acc) (k : Nat) (j : Nat) : Int := if j < k * 4 then wrF A j else 0
theorem wr_round (A : List Acc) (k : Nat) (hk : k < A.length) (j : Nat) : upd (upd (upd (upd (wrK A k) (k * 4) A[k].b) (k * 4 + 1) A[k].c) (k * 4 + 2) A[k].y) (k * 4 + 3) A[k].z j = wrK A (k + 1) j := by
  have hx : A[k]? = some A[k] := List.getElem?_eq_getElem hk
  unfold upd wrK
  by_cases h0 : j = k * 4 + 3
  · subst h0
    rw [if_pos rfl, if_pos (by omega)]
    unfold wrF
    rw [show (k * 4 + 3) / 4 = k by omega, hx, show (k * 4 + 3) % 4 = 3 by omega]; rfl
  rw [if_neg h0]
  by_cases h1 : j = k * 4 + 2
  · subst h1
    rw [if_pos rfl, if_pos (by omega)]
    unfold wrF
    rw [show (k * 4 + 2) / 4 = k by omega, hx, show (k * 4 + 2) % 4 = 2 by omega]; rfl
  rw [if_neg h1]
  by_cases h2 : j = k * 4 + 1
  · subst h2
    rw [if_pos rfl, if_pos (by omega)]
    unfold wrF
    rw [show (k * 4 + 1) / 4 = k by omega, hx, show (k * 4 + 1) % 4 = 1 by omega]; rfl
  rw [if_neg h2]
  by_cases h3 : j = k * 4
  · subst h3
    rw [if_pos rfl, if_pos (by omega)]
    unfold wrF
    rw [show (k * 4) / 4 = k by omega, hx, show (k * 4) % 4 = 0 by omega]; rfl
  rw [if_neg h3]
  by_cases h4 : j < k * 4
  · rw [if_pos h4, if_pos (by omega)]
  · rw [if_neg h4, if_neg (by omega)]
theorem wr_end (A : List Acc) (j : Nat) : wrK A A.length j = wrF A j := by
  unfold wrK
  by_cases h : j < A.length * 4
  · rw [if_pos h]
  · rw [if_neg h]
    unfold wrF
    rw [List.getElem?_eq_none (by omega)]

set_option maxHeartbeats 4000000 in
set_option maxRecDepth 100000 in
theorem written_any (A : List Acc) (ad : Option Addr) (cap : Nat) (w : World) (hA : AccsAt w ad A) (hn : A.length ≤ 12) :
    Calls Try.prog 41 #[.slice ad A.length cap] w fun e w' => e = .returned (.agg (arrL (wrF A)).toArray) ∧ Gr w w' := by
  have HL : Hid (AccsAt w ad A) := hA
  have hu := Try.underlying82
  clear hA
  go_enter Try.func41, Try.ntmps41
  go_wp2_with fail
  have R0 : ArrAt ((w.alloc (.cells (arrL (fun _ => 0)).toArray 82)).alloc (.cells (arrL (fun _ => 0)).toArray 82)) w.heap.size (fun _ => 0) := (ArrAt.new w _ _ _ _ rfl rfl).gr (Gr.refl _).alloc
  have R1 : ArrAt ((w.alloc (.cells (arrL (fun _ => 0)).toArray 82)).alloc (.cells (arrL (fun _ => 0)).toArray 82)) (w.heap.size + 1) (fun _ => 0) := ArrAt.new _ _ _ _ _ (by simp) rfl
  go_loopw [8] (fun s8 wr => ∃ k : Nat, s8 = .int .i64 k ∧ k ≤ A.length ∧ ArrAt wr w.heap.size (fun _ => 0) ∧ ArrAt wr (w.heap.size + 1) (wrK A k) ∧ Gr w wr) (fun s8 _ => A.length - (intOf s8).toNat)
  case atStart => exact ⟨0, rfl, Nat.zero_le _, R0, R1.congr (fun j _ => by unfold wrK; rw [if_neg (by omega)]), (Gr.refl _).alloc.alloc⟩
  case round =>
    clear R0 R1
    obtain ⟨k, rfl, hk, h0, h1, hg⟩ := hrel
    have H0 : Hid (ArrAt wr w.heap.size (fun _ => 0)) := h0
    have H1 : Hid (ArrAt wr (w.heap.size + 1) (wrK A k)) := h1
    have HG : Hid (Gr w wr) := hg
    clear h0 h1 hg
    by_cases hlt : k < A.length
    · obtain ⟨b, off, rfl, hb, d0, d1, d2, d3, d4, d5, d6⟩ := (AccsAt.at HL.out k hlt)
      have d0 := HG.out.keep d0
      have d1 := HG.out.keep d1
      have d2 := HG.out.keep d2
      have d3 := HG.out.keep d3
      have d4 := HG.out.keep d4
      have d5 := HG.out.keep d5
      have d6 := HG.out.keep d6
      have hbw : b < wr.heap.size := Nat.lt_of_lt_of_le hb HG.out.size
      have hki : (k : Int) < (A.length : Int) := by omega
      have hk12 : (k : Int) < 12 := by omega
      have HW : Hid (∀ j, upd (upd (upd (upd (wrK A k) (k * 4) A[k].b) (k * 4 + 1) A[k].c) (k * 4 + 2) A[k].y) (k * 4 + 3) A[k].z j = wrK A (k + 1) j) := fun j => wr_round A k hlt j
      generalize A[k] = x at *
      have p0 := H1.out.c (k * 4) (by omega)
      have p1 := H1.out.c (k * 4 + 1) (by omega)
      have p2 := H1.out.c (k * 4 + 2) (by omega)
      have p3 := H1.out.c (k * 4 + 3) (by omega)
      have q0 := H1.out.fz (k * 4) (by omega)
      have q1 := H1.out.fz (k * 4 + 1) (by omega)
      have q2 := H1.out.fz (k * 4 + 2) (by omega)
      have q3 := H1.out.fz (k * 4 + 3) (by omega)
      have pl := H1.out.lt
      go_wp2
      go_roundw
      case rel =>
        refine ⟨k + 1, by go_num, by omega, ?_, ?_, ?_⟩
        · exact ((((H0.out.far _ _ (by simp)).far _ _ (by simp)).far _ _ (by simp)).far _ _ (by simp)).gr (Gr.refl _).alloc
        · exact (((((H1.out.set (k * 4) (by omega) x.b).set (k * 4 + 1) (by omega) x.c).set (k * 4 + 2) (by omega) x.y).set (k * 4 + 3) (by omega) x.z).gr (Gr.refl _).alloc).congr (fun j _ => HW.out j)
        · exact ((((HG.out.set _ (by simp) _).set _ (by simp) _).set _ (by simp) _).set _ (by simp) _).alloc
      case measure => simp [intOf]; omega
    · have hge : ¬ ((k : Int) < (A.length : Int)) := by omega
      obtain rfl : k = A.length := by omega
      go_wp2_with (first
        | (refine wpList_load_mid rfl 82 _ rfl (w.heap.size + 1) 0 rfl (arrL (wrK A A.length)) _ H1.out.range hu rfl (by rw [arrL_len]; exact arr_size) ?_)
        | (refine wpList_store_mid rfl 82 _ _ rfl w.heap.size 0 (arrL (wrK A A.length)).toArray rfl rfl (by simpa [arrL_len] using H0.out.there) (by rw [List.size_toArray, arrL_len]; exact arr_size) (all_oneCell_toArray (arrL_one _)) ?_)
        | fail)
      exact bodyPost_ret (v := .agg (arrL (wrK A A.length)).toArray) (results_arr Try.results41 _ _ _ _ rfl (H0.out.stored _)) rfl ⟨by rw [arrL_congr (fun j _ => wr_end A j)], HG.out.setCells _ (Nat.le_refl _) _ _⟩
end Go.Proofs.Ytiakajheoajepaa
