
/- disk: Files, Used. -/
import Derived.Test.YtpnlebegenkdkaaDkQ
import Derived.Shelf.SlIterI.Nil
import Derived.Shelf.SortM.Plain
import Derived.Shelf.SortM.SortNone
namespace Go.Proofs.Ytpnlebegenkdkaa
open Go.RowKit Go.Maps Go.Sort Go.Shelf
open Dk (Fl Fo St Ok Up zf emp used cutF one fallA kf)
variable {w w' : World} {b m : Nat} {A : Nat → Int} {s : St}

theorem sorts (m : Nat) : AnyZI.SortsIn Try.prog Try.sortedA_ren Fence.wide m :=
  ⟨fun blk off cap ss W hH hblk hsz => callsIn_wide.2 (AnyM.slices_Sort_int Try.sortA blk off cap ss W hH hblk hsz),
   fun p cap W => callsIn_wide.2 (AnyM.slices_Sort_int_none Try.sortA p cap W)⟩
/- maps.Keys, and slices.Sorted of what it answers -/
theorem keys_any (mb : Option Nat) (W : World) : Calls Try.prog 53 #[.map mb] W fun e w' => e = .returned (.func (.func 60) #[] #[.pointer (some ⟨W.heap.size, 0, none⟩)]) ∧ w' = W.alloc (.cells #[.map mb] 44) :=
  (callsIn_wide (n := 5)).1 (AnyZI.keys_in Try.keysA Fence.wide 5 trivial rfl mb W)
theorem sorted_any {nn : Nat} {D : DataW Unit} (hown : w.ownsMap Try.prog 3 flE m nn D) (hmax : Maps.size D ≤ 1000) :
    Calls Try.prog 52 #[.func (.func 60) #[] #[.pointer (some ⟨w.heap.size, 0, none⟩)]] (w.alloc (.cells #[.map (some m)] 44)) fun e w' => ∃ (v : Value) (ss : List Int), e = .returned v ∧ ss.Perm (intKeys D) ∧
      w'.ownsRow w.heap.size 3 1 v ss.length ((ss.mergeSort (fun x y => decide (x ≤ y))).map encZ) ∧ (v = .slice none 0 0 ↔ ss = []) ∧ Gr w w' := by
  refine (callsIn_wide (n := 5)).1 ?_
  have hbl := hown.lt
  have hseq : SeqGives Fence.wide 2 Try.prog 60 #[.pointer (some ⟨w.heap.size, 0, none⟩)] encZ (fun ss => ss.Perm (intKeys D)) (Maps.size D) (w.alloc (.cells #[.map (some m)] 44)) :=
    AnyZI.keys_gives (ρ := Try.keysA_ren) { Try.keysA with } Fence.wide _ trivial rfl (by omega) w.heap.size m nn D _ (by simp) (by simp) (by
      obtain ⟨es, clock, hb, Ft, hs, hD⟩ := hown
      exact ⟨es, clock, (Below.heap_alloc _ _ m hbl).trans hb, Ft, hs, hD⟩)
  have cS := AnyZI.sorted_in Try.sortedA Fence.wide 5 trivial trivial trivial trivial rfl (by omega) (sorts _) (enters_of Try.func59 (by kernel_rfl) rfl) 60 #[.pointer (some ⟨w.heap.size, 0, none⟩)] trivial (enters_of Try.func60 (by kernel_rfl) rfl) _ _ (by unfold maxLen; omega) (by omega) _ hseq
  refine cS.mono ?_
  rintro e w' ⟨v, ss, rfl, hS, hrow, hnil, hb⟩
  exact ⟨v, ss, rfl, hS, ownsRow_base_a hrow (by simp), hnil, ⟨((Below.refl _ w).alloc (Nat.le_refl _) _).trans (hb.mono (by simp))⟩⟩
def nms (L : List Fl) : List Value := L.map (fun f => .int .i64 f.n)
def FlR (w w' : World) (L : List Fl) (v : Value) : Prop := w'.ownsRow w.heap.size 3 1 v L.length (nms L) ∧ (v = .slice none 0 0 ↔ L = []) ∧ Gr w w'
theorem sorted_files {L : List Fl} (h : FilesAt w m L) (hu : Up L) (hl : L.length ≤ 1000) :
    Calls Try.prog 52 #[.func (.func 60) #[] #[.pointer (some ⟨w.heap.size, 0, none⟩)]] (w.alloc (.cells #[.map (some m)] 44)) fun e w' => ∃ v, e = .returned v ∧ FlR w w' L v := by
  obtain ⟨D, h, r⟩ := h
  refine (sorted_any h (by rw [r.size]; exact hl)).mono ?_
  rintro e w' ⟨v, ss, rfl, hp, hrow, hn, hg⟩
  have hp2 : ss.Perm (L.map (·.n)) := hp.trans (keys_perm h r hu).symm
  have hlen : ss.length = L.length := by rw [hp2.length_eq]; simp
  rw [merge_eq hp2 hu, hlen, List.map_map] at hrow
  refine ⟨v, rfl, hrow, hn.trans ?_, hg⟩
  constructor
  · rintro rfl; exact List.length_eq_zero_iff.1 hlen.symm
  · rintro rfl; exact List.length_eq_zero_iff.1 hlen
set_option maxHeartbeats 1000000 in
set_option maxRecDepth 100000 in
theorem files_any (h : DAt w b m A s) : Calls Try.prog 27 #[ptr b] w fun e w' => ∃ v, e = .returned v ∧ FlR w w' s.L v := by
  have hN := isNone_any h
  have h1 := h.mp
  have HS := Lib.hid (sorted_files h.fl h.ok.up (by have := h.ok.len; omega))
  have HK := Lib.hid (keys_any (some m) w)
  clear h
  go_enter Try.func27, Try.ntmps27
  go_wp2_with (go_at_call 51; refine hN.mono ?_; rintro e w' ⟨rfl, rfl⟩)
  refine HK.out.mono ?_
  rintro e w1 ⟨rfl, rfl⟩
  go_wp2_with fail
  refine HS.out.mono ?_
  rintro e w1 ⟨v, rfl, hr⟩
  go_wp2
  go_ret
  exact ⟨v, rfl, hr⟩
end Go.Proofs.Ytpnlebegenkdkaa
