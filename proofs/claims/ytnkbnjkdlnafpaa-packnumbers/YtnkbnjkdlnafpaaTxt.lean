/- pack.Texts lays Pk.texts. -/
import Derived.Test.YtnkbnjkdlnafpaaNum
import Derived.Test.YtnkbnjkdlnafpaaShelf
import Derived.Test.YtnkbnjkdlnafpaaWr
namespace Go.Proofs.Ytnkbnjkdlnafpaa
open Go.RowKit

theorem Gr.grownBy {w w' : World} (h : Gr w w') : w.grownBy w' none := ⟨h.below.os, h.below.tape, h.below.output, h.below.size, fun k hk _ => h.below.block k hk⟩
theorem Gr.builderAt {T e : TypeId} {B b : Nat} {p : Value} {bs : List Value} {w w' : World} (g : Gr w w') (h : Lib.BuilderAt T e B b p bs w) : Lib.BuilderAt T e B b p bs w' := by
  have hlt := h.lt
  obtain ⟨hB, v, hb, hown, hne⟩ := h
  refine ⟨hB, v, (g.below.block b hlt).trans hb, hown.kept g.grownBy ?_, hne⟩
  cases hv : v.ownBlock with
  | none => exact Or.inl rfl
  | some q => exact Or.inr (by simp)
theorem Gr.isBuilder {T e : TypeId} {B b : Nat} {bs : List Value} {w w' : World} (g : Gr w w') (h : Lib.IsBuilder T e B b bs w) : Lib.IsBuilder T e B b bs w' :=
  h.elim (fun h => Or.inl (g.builderAt h)) (fun h => Or.inr (g.builderAt h))

/- a row of strings in memory, its address whatever where there is none -/
def StrsAt (w : World) (ad : Option Addr) (L : List ByteArray) : Prop :=
  ∀ j (h : j < L.length), ∃ b off, ad = some ⟨b, off, none⟩ ∧ b < w.heap.size ∧ w.cell? ⟨b, off + j, none⟩ = some (.string L[j])
theorem StrsAt.gr {w w' : World} {ad : Option Addr} {L : List ByteArray} (h : StrsAt w ad L) (g : Gr w w') : StrsAt w' ad L := by
  intro j hj
  obtain ⟨b, off, e, hb, hc⟩ := h j hj
  exact ⟨b, off, e, Nat.lt_of_lt_of_le hb g.size, (g.below.cell (p := ⟨b, off + j, none⟩) hb).trans hc⟩

theorem mk_data (s : ByteArray) : (⟨s.data.toList.toArray⟩ : ByteArray) = s := by simp

set_option maxHeartbeats 1000000 in
set_option maxRecDepth 100000 in
theorem texts_any (L : List ByteArray) (ad : Option Addr) (cap : Nat) (w : World) (hL : StrsAt w ad L) (hlen : (Pk.texts L).length ≤ 1000000) (hn : L.length ≤ 1000000) :
    Calls Try.prog 17 #[.slice ad L.length cap] w fun e w' => e = .returned (.string ⟨(Pk.texts L).toArray⟩) ∧ Gr w w' := by
  have h0 : Lib.IsBuilder 57 5 w.heap.size w.heap.size [] (w.alloc (.cells #[.pointer none, .slice none 0 0] 57)) := Lib.fresh_isBuilder 57 5 w
  have b0 : Below w.heap.size w (w.alloc (.cells #[.pointer none, .slice none 0 0] 57)) := (Below.refl _ w).alloc (Nat.le_refl _) _
  have HN : Hid (∀ w : World, Calls Try.prog 9 #[.int .u64 L.length] w fun e w' => e = .returned (.string ⟨(Pk.num L.length).toArray⟩) ∧ Gr w w') := fun w => number_any L.length w (by omega)
  have hl1 := Pk.num_len L.length
  go_enter Try.func17, Try.ntmps17
  go_wp2_with fail
  refine (HN.out _).mono ?_
  rintro e w1 ⟨rfl, hg1⟩
  have h1 := hg1.isBuilder h0
  have b1 := b0.trans (hg1.below.mono b0.size)
  go_wp2_with (go_at_call 28; refine (Try.writeString w.heap.size w.heap.size [] ⟨(Pk.num L.length).toArray⟩ _ h1 (by simp [ByteArray.size]; omega) b1.size).mono ?_)
  rintro e w2 ⟨rfl, h2, b2⟩
  have h2' : Lib.IsBuilder 57 5 w.heap.size w.heap.size (Lib.byteCells (Pk.num L.length ++ Pk.body (L.take 0))) w2 := by
    rw [List.nil_append, Lib.strCells_eq] at h2
    have e : (⟨(Pk.num L.length).toArray⟩ : ByteArray).data.toList = Pk.num L.length ++ Pk.body (L.take 0) := by simp [Pk.body]
    rw [e] at h2
    exact Or.inr h2
  have b2' := b1.trans b2
  have HB : Hid (∀ k, (Pk.body (L.take k)).length ≤ (Pk.body L).length) := Pk.body_take_le L
  have hlen' : (Pk.num L.length).length + (Pk.body L).length ≤ 1000000 := by simpa [Pk.texts] using hlen
  have HL : Hid (StrsAt w ad L) := hL
  clear h0 b0 h1 b1 hg1 h2 b2 hL hlen
  go_wp2_with fail
  go_loopw [13] (fun i wr => ∃ k : Nat, k ≤ L.length ∧ i = .int .i64 k ∧ Lib.IsBuilder 57 5 w.heap.size w.heap.size (Lib.byteCells (Pk.num L.length ++ Pk.body (L.take k))) wr ∧ Below w.heap.size w wr) (fun i _ => L.length - (intOf i).toNat)
  case atStart => exact ⟨0, by omega, rfl, h2', b2'⟩
  case round =>
    clear h2' b2'
    obtain ⟨k, hk, rfl, hbd, hb⟩ := hrel
    by_cases hlt : k < L.length
    · obtain ⟨b, off, rfl, hbl, hc⟩ := HL.out k hlt
      have hc' : wr.cell? ⟨b, off + k, none⟩ = some (.string L[k]) := (hb.cell (p := ⟨b, off + k, none⟩) hbl).trans hc
      have hbk := HB.out (k + 1)
      have et : L.take (k + 1) = L.take k ++ [L[k]] := List.take_succ_eq_append_getElem hlt
      rw [et, Pk.body_snoc] at hbk
      have hsz : (L[k]).data.toList.length = (L[k]).size := by simp
      have ex : Pk.text (L[k]).data.toList = Pk.num (L[k]).size ++ (L[k]).data.toList := by rw [Pk.text, hsz]
      rw [ex] at hbk
      simp only [List.length_append, hsz] at hbk
      have HE : Hid (Pk.num L.length ++ Pk.body (L.take (k + 1)) = (Pk.num L.length ++ Pk.body (L.take k)) ++ (Pk.num (L[k]).size ++ (L[k]).data.toList)) := by
        show _ = _
        rw [et, Pk.body_snoc, ex, List.append_assoc]
      have hacc : (Pk.num L.length ++ Pk.body (L.take k)).length + (Pk.num (L[k]).size).length + (L[k]).size ≤ 1000000 := by
        simp only [List.length_append]; omega
      generalize Pk.num L.length ++ Pk.body (L.take k) = acc at *
      have HS : Hid (∀ w : World, Calls Try.prog 9 #[.int .u64 (L[k]).size] w fun e w' => e = .returned (.string ⟨(Pk.num (L[k]).size).toArray⟩) ∧ Gr w w') := fun w => number_any (L[k]).size w (by omega)
      have HSZ : Hid ((L[k]).data.toList.length = (L[k]).size) := hsz
      generalize hsv : L[k] = sv at *
      have HV : Hid (L[k] = sv) := hsv
      clear et ex hsz hc hbk hsv
      go_wp2_with fail
      refine (HS.out _).mono ?_
      rintro e w3 ⟨rfl, hg3⟩
      have h3 := hg3.isBuilder hbd
      have b3 := hb.trans (hg3.below.mono hb.size)
      clear hc'
      have hl3 : (Lib.byteCells acc).length + (⟨(Pk.num sv.size).toArray⟩ : ByteArray).size ≤ 140737488355328 := by
        rw [Lib.byteCells_length]; show acc.length + (Pk.num sv.size).toArray.size ≤ _; rw [List.size_toArray]; omega
      go_wp2_with (go_at_call 28; refine (Try.writeString w.heap.size w.heap.size _ ⟨(Pk.num sv.size).toArray⟩ _ h3 hl3 b3.size).mono ?_)
      rintro e w4 ⟨rfl, h4, b4⟩
      have b4' := b3.trans b4
      rw [Lib.strCells_eq, ← Lib.byteCells_append] at h4
      have el : (⟨(Pk.num sv.size).toArray⟩ : ByteArray).data.toList = Pk.num sv.size := rfl
      rw [el] at h4
      have hl4 : (Lib.byteCells (acc ++ Pk.num sv.size)).length + sv.size ≤ 140737488355328 := by rw [Lib.byteCells_length, List.length_append]; omega
      go_wp2_with (go_at_call 28; refine (Try.writeString w.heap.size w.heap.size _ sv _ (Or.inr h4) hl4 b4'.size).mono ?_)
      rintro e w5 ⟨rfl, h5, b5⟩
      rw [Lib.strCells_eq, ← Lib.byteCells_append] at h5
      go_wp2
      go_roundw
      case rel =>
        refine ⟨k + 1, by omega, by go_num, ?_, b4'.trans b5⟩
        rw [HE.out, ← List.append_assoc]
        exact Or.inr h5
      case measure => simp [intOf]; omega
    · have hkl : k = L.length := by omega
      have e : L.take k = L := by rw [hkl]; exact List.take_length
      rw [e] at hbd
      clear e
      go_wp2_with (go_at_call 29; refine (Try.Builder_String_any w.heap.size w.heap.size _ _ hbd hb.size).mono ?_)
      rintro e w3 ⟨rfl, b3⟩
      go_wp2
      go_ret
      exact ⟨rfl, ⟨hb.trans b3⟩⟩
end Go.Proofs.Ytnkbnjkdlnafpaa
