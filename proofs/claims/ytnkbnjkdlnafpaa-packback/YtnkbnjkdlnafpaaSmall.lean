/- Small answers Pk.small; the document's Text and Texts lay Pk.text, Pk.texts. -/
import Derived.Test.YtnkbnjkdlnafpaaTxt
import Derived.Test.YtnkbnjkdlnafpaaRefNum
import Derived.Test.YtnkbnjkdlnafpaaMath5
namespace Go.Proofs.Ytnkbnjkdlnafpaa
open Go.RowKit

set_option maxHeartbeats 400000 in
set_option maxRecDepth 100000 in
theorem small_any (L : List ByteArray) (ad : Option Addr) (cap : Nat) (w : World) (hL : StrsAt w ad L) (hn : L.length ≤ 9223372036854775807) (hsz : ∀ s ∈ L, s.size ≤ 9223372036854775807) :
    Calls Try.prog 14 #[.slice ad L.length cap] w fun e w' => e = .returned (.bool (Pk.small L)) ∧ w' = w := by
  have HL : Hid (StrsAt w ad L) := hL
  have HZ : Hid (∀ s ∈ L, s.size ≤ 9223372036854775807) := hsz
  clear hL hsz
  go_enter Try.func14, Try.ntmps14
  go_wp2
  go_loop [3, 4] (fun n i => ∃ k m : Nat, k ≤ L.length ∧ m ≤ 50000 ∧ i = .int .i64 k ∧ n = .int .i64 m ∧ Pk.small L = Pk.smallF m (L.drop k)) (fun _ i => L.length - (intOf i).toNat)
  case atStart => exact ⟨0, 0, by omega, by omega, rfl, rfl, rfl⟩
  case round =>
    obtain ⟨k, m, hk, hm, rfl, rfl, hq⟩ := hrel
    have HQ : Hid (Pk.small L = Pk.smallF m (L.drop k)) := hq
    clear hq
    by_cases hlt : k < L.length
    · obtain ⟨b, off, rfl, hbl, hc⟩ := HL.out k hlt
      have hz := HZ.out L[k] (List.getElem_mem hlt)
      have e := List.drop_eq_getElem_cons hlt
      have HQ2 : Hid (Pk.small L = if 50000 < m + (min (L[k]).size 100000 + 10) then false else Pk.smallF (m + (min (L[k]).size 100000 + 10)) (L.drop (k + 1))) := by
        show _ = _
        rw [HQ.out, e, Pk.smallF]
      clear e
      by_cases hbig : 50000 < m + (min (L[k]).size 100000 + 10)
      · have HR : Hid (Pk.small L = false) := by show _ = _; rw [HQ2.out, if_pos hbig]
        have hbi : (50000 : Int) < (m : Int) + (min ((L[k]).size : Int) 100000 + 10) := by omega
        go_wp2
        go_ret
        exact ⟨by rw [HR.out]; rfl, rfl⟩
      · have HR : Hid (Pk.small L = Pk.smallF (m + (min (L[k]).size 100000 + 10)) (L.drop (k + 1))) := by show _ = _; rw [HQ2.out, if_neg hbig]
        have hbi : ¬ (50000 : Int) < (m : Int) + (min ((L[k]).size : Int) 100000 + 10) := by omega
        go_wp2
        go_round
        case rel => exact ⟨k + 1, m + (min (L[k]).size 100000 + 10), by omega, by omega, by go_num, by go_num, HR.out⟩
        case measure => simp [intOf]; omega
    · have HR : Hid (Pk.small L = true) := by
        show _ = _
        rw [HQ.out, List.drop_eq_nil_of_le (by omega)]; rfl
      go_wp2
      go_ret
      exact ⟨by rw [HR.out]; rfl, rfl⟩

set_option maxHeartbeats 400000 in
set_option maxRecDepth 100000 in
theorem refText_any (s : ByteArray) (w : World) (hs : s.size ≤ 140737488355328) :
    Calls Try.prog 16 #[.string s] w fun e w' => e = .returned (.string ⟨(Pk.text s.data.toList).toArray⟩) ∧ Gr w w' := by
  have hsz : s.data.toList.length = s.size := by simp
  have hl := Pk.num_len s.size
  have hadd := add_lists (Pk.num s.size) s.data.toList (by omega)
  rw [mk_data] at hadd
  have he : Pk.text s.data.toList = Pk.num s.size ++ s.data.toList := by rw [Pk.text, hsz]
  rw [he]
  have HN : Hid (∀ w : World, Calls Try.prog 10 #[.int .u64 s.size] w fun e w' => e = .returned (.string ⟨(Pk.num s.size).toArray⟩) ∧ Gr w w') := fun w => refNumber_any 9 s.size w (by omega) (by omega) (by omega)
  generalize Pk.num s.size = t at *
  clear he hsz hl
  go_enter Try.func16, Try.ntmps16
  go_wp2_with fail
  refine (HN.out _).mono ?_
  rintro e w1 ⟨rfl, hg1⟩
  go_wp2
  go_ret
  exact ⟨rfl, (by repeat (first | exact Gr.refl _ | refine Gr.alloc ?_ | refine Gr.drew ?_ | refine Gr.trans ?_ (by assumption)))⟩

theorem Gr.keep {W w1 : World} (g : Gr W w1) {p : Addr} {v : Value} (h : W.cell? p = some v) : w1.cell? p = some v :=
  (g.below.cell (World.block_lt_of_cell? W p h)).trans h

set_option maxHeartbeats 400000 in
set_option maxRecDepth 100000 in
theorem refTexts_any (L : List ByteArray) (ad : Option Addr) (cap : Nat) (w : World) (hL : StrsAt w ad L) (hlen : (Pk.texts L).length ≤ 1000000) (hn : L.length ≤ 1000000) (hsz : ∀ s ∈ L, s.size ≤ 1000000) :
    Calls Try.prog 18 #[.slice ad L.length cap] w fun e w' => e = .returned (.string ⟨(Pk.texts L).toArray⟩) ∧ Gr w w' := by
  have HN : Hid (∀ w : World, Calls Try.prog 10 #[.int .u64 L.length] w fun e w' => e = .returned (.string ⟨(Pk.num L.length).toArray⟩) ∧ Gr w w') := fun w => refNumber_any 9 L.length w (by omega) (by omega) (by omega)
  have HB : Hid (∀ k, (Pk.body (L.take k)).length ≤ (Pk.body L).length) := Pk.body_take_le L
  have hlen' : (Pk.num L.length).length + (Pk.body L).length ≤ 1000000 := by simpa [Pk.texts] using hlen
  have HL : Hid (StrsAt w ad L) := hL
  have HZ : Hid (∀ s ∈ L, s.size ≤ 1000000) := hsz
  have h00 : Pk.num L.length = Pk.num L.length ++ Pk.body (L.take 0) := by simp [Pk.body]
  have H00 : Hid (Pk.num L.length = Pk.num L.length ++ Pk.body (L.take 0)) := h00
  have HT : Hid (Pk.texts L = Pk.num L.length ++ Pk.body L) := rfl
  clear hL hlen hsz h00
  go_enter Try.func18, Try.ntmps18
  go_wp2_with fail
  refine (HN.out _).mono ?_
  rintro e w1 ⟨rfl, hg1⟩
  go_wp2_with fail
  go_loopw [3, 4] (fun o i wr => ∃ k : Nat, k ≤ L.length ∧ i = .int .i64 k ∧ o = .string ⟨(Pk.num L.length ++ Pk.body (L.take k)).toArray⟩ ∧ Gr w wr) (fun _ i _ => L.length - (intOf i).toNat)
  case atStart => exact ⟨0, by omega, rfl, by rw [← H00.out], hg1⟩
  case round =>
    clear hg1
    obtain ⟨k, hk, rfl, rfl, hg⟩ := hrel
    by_cases hlt : k < L.length
    · obtain ⟨b, off, rfl, hbl, hc⟩ := HL.out k hlt
      have hc' : wr.cell? ⟨b, off + k, none⟩ = some (.string L[k]) := hg.keep hc
      have hbk := HB.out (k + 1)
      have et : L.take (k + 1) = L.take k ++ [L[k]] := List.take_succ_eq_append_getElem hlt
      rw [et, Pk.body_snoc] at hbk
      simp only [List.length_append] at hbk
      have hz := HZ.out L[k] (List.getElem_mem hlt)
      have HX : Hid (∀ w : World, Calls Try.prog 16 #[.string L[k]] w fun e w' => e = .returned (.string ⟨(Pk.text (L[k]).data.toList).toArray⟩) ∧ Gr w w') := fun w => refText_any L[k] w (by omega)
      have hadd := add_lists (Pk.num L.length ++ Pk.body (L.take k)) (Pk.text (L[k]).data.toList) (by simp only [List.length_append]; omega)
      have HE : Hid (Pk.num L.length ++ Pk.body (L.take (k + 1)) = (Pk.num L.length ++ Pk.body (L.take k)) ++ Pk.text (L[k]).data.toList) := by
        show _ = _
        rw [et, Pk.body_snoc, List.append_assoc]
      generalize Pk.num L.length ++ Pk.body (L.take k) = acc at *
      generalize hsv : L[k] = sv at *
      generalize Pk.text sv.data.toList = tx at *
      clear et hc hbk hsv
      go_wp2_with fail
      refine (HX.out _).mono ?_
      rintro e w3 ⟨rfl, hg3⟩
      go_wp2
      go_roundw
      case rel => exact ⟨k + 1, by omega, by go_num, by rw [HE.out], hg.trans hg3⟩
      case measure => simp [intOf]; omega
    · have e : L.take k = L := List.take_of_length_le (by omega)
      rw [e, ← HT.out]
      clear e
      go_wp2
      go_ret
      exact ⟨rfl, hg⟩
end Go.Proofs.Ytnkbnjkdlnafpaa
