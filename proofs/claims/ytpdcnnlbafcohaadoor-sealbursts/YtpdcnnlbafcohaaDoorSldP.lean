/- sealed: frames, one behind the other, and where each ends. -/
import Derived.Test.YtpdcnnlbafcohaaDoorBackM
import Derived.Test.YtpdcnnlbafcohaaDoorSealP
namespace Go.Proofs.YtpdcnnlbafcohaaDoor
open Go.RowKit

/- a row of integers in memory -/
def IntsAt (w : World) (ad : Option Addr) (l : List Nat) : Prop :=
  ∀ j (h : j < l.length), ∃ b off, ad = some ⟨b, off, none⟩ ∧ b < w.heap.size ∧ w.cell? ⟨b, off + j, none⟩ = some (.int .i64 (l[j] : Int))
theorem IntsAt.gr {w w' : World} {ad : Option Addr} {l : List Nat} (h : IntsAt w ad l) (g : Gr w w') : IntsAt w' ad l := by
  intro j hj
  obtain ⟨b, off, e, hb, hc⟩ := h j hj
  exact ⟨b, off, e, Nat.lt_of_lt_of_le hb g.size, (g.below.cell (p := ⟨b, off + j, none⟩) hb).trans hc⟩
def intV (l : List Nat) : List Value := l.map fun (n : Nat) => Value.int .i64 (n : Int)
theorem own_or (v : Value) : v.ownBlock = none ∨ v.ownBlock ≠ none := by
  cases v.ownBlock with
  | none => exact Or.inl rfl
  | some q => exact Or.inr (by simp)
theorem own_ints {base : Nat} {v : Value} {l : List Nat} {w : World} (h : w.ownsRow base 3 1 v l.length (intV l)) : ∃ ad cap, v = .slice ad l.length cap ∧ IntsAt w ad l := by
  have hcell := fun g (hg : v.ownBlock = some g) => h.cells hg
  have hlt := h.lt
  obtain ⟨_, ⟨rfl, h0⟩ | ⟨g, cap, cur, rfl, _⟩⟩ := h
  · have : l = [] := List.length_eq_zero_iff.1 h0
    subst this
    exact ⟨none, 0, rfl, fun j hj => absurd hj (by simp)⟩
  · refine ⟨some ⟨g, 0, none⟩, cap, rfl, ?_⟩
    intro j hj
    refine ⟨g, 0, rfl, (hlt g rfl).2, ?_⟩
    have := hcell g rfl j (.int .i64 (l[j] : Int)) (by simp [intV, hj])
    rw [Addr.add_lit] at this
    simpa using this
theorem info3 : (Tryd.prog.info? 3).map (fun i => (i.zero, i.size, i.bytes)) = some (some (.int .i64 0), 1, 8) := by kernel_rfl

/- the frames of some texts, as far as they are sealed -/
def catE (v : Int) (L : List ByteArray) : List UInt8 := L.flatMap fun s => (Sl.sealE v s.data.toList).1
def goodE (v : Int) (L : List ByteArray) : Bool := L.all fun s => (Sl.sealE v s.data.toList).2 == 0
def endsL (v : Int) (L : List ByteArray) (k : Nat) : List Nat := (List.range k).map fun j => (catE v (L.take (j + 1))).length
theorem endsL_len (v : Int) (L : List ByteArray) (k : Nat) : (endsL v L k).length = k := by simp [endsL]
theorem endsL_more (v : Int) (L : List ByteArray) (k : Nat) : endsL v L (k + 1) = endsL v L k ++ [(catE v (L.take (k + 1))).length] := by simp [endsL, List.range_succ]
theorem endsL_get (v : Int) (L : List ByteArray) (k j : Nat) (h : j < (endsL v L k).length) : (endsL v L k)[j] = (catE v (L.take (j + 1))).length := by simp [endsL]
theorem catE_more (v : Int) (L : List ByteArray) (k : Nat) (h : k < L.length) : catE v (L.take (k + 1)) = catE v (L.take k) ++ (Sl.sealE v L[k].data.toList).1 := by
  unfold catE; rw [List.take_succ_eq_append_getElem h, List.flatMap_append]; simp
theorem catE_take_le (v : Int) (L : List ByteArray) (k : Nat) : (catE v (L.take k)).length ≤ (catE v L).length := by
  have e : catE v L = catE v (L.take k) ++ catE v (L.drop k) := by
    have := congrArg (catE v) (List.take_append_drop k L)
    exact this.symm.trans (by unfold catE; rw [List.flatMap_append])
  rw [e, List.length_append]; omega

set_option maxHeartbeats 1000000 in
set_option maxRecDepth 100000 in
theorem sealed_any (v : Int) (L : List ByteArray) (ad : Option Addr) (cap : Nat) (w : World) (hT : Tab w) (hL : StrsAt w ad L) (hn : L.length ≤ 1000000) (hsz : ∀ s ∈ L, s.size ≤ 9223372036854775807) (hlen : (catE v L).length ≤ 10000000) :
    Calls Tryd.prog 17 #[.int .i64 v, .slice ad L.length cap] w fun e w' =>
      ((goodE v L = true ∧ ∃ ad2 cap2, e = .returned (.tuple #[.string ⟨(catE v L).toArray⟩, .slice ad2 L.length cap2, .bool true]) ∧ IntsAt w' ad2 (endsL v L L.length)) ∨
       (goodE v L = false ∧ e = .returned (.tuple #[.string ⟨#[]⟩, .slice none 0 0, .bool false]))) ∧ Gr w w' := by
  obtain ⟨i0, hi, hz0, hz1, hz2⟩ := info_parts info3
  have HL : Hid (StrsAt w ad L) := hL
  have HZ : Hid (∀ s ∈ L, s.size ≤ 9223372036854775807) := hsz
  have HT : Hid (Tab w) := hT
  clear hL hsz hT
  go_enter Tryd.func17, Tryd.ntmps17
  go_wp2
  go_loopw [7, 8, 9] (fun o e i wr => ∃ k : Nat, k ≤ L.length ∧ i = .int .i64 k ∧ o = .string ⟨(catE v (L.take k)).toArray⟩ ∧ wr.ownsRow w.heap.size 3 1 e k (intV (endsL v L k)) ∧ goodE v L = goodE v (L.drop k) ∧ Below w.heap.size w wr)
    (fun _ _ i _ => L.length - (intOf i).toNat)
  case atStart => exact ⟨0, by omega, rfl, rfl, World.ownsRow_nil _ _ _ _, rfl, Below.refl _ _⟩
  case round =>
    obtain ⟨k, hk, rfl, rfl, hown, hgd, hb⟩ := hrel
    have hbs := hb.size
    have HG : Hid (goodE v L = goodE v (L.drop k)) := hgd
    clear hgd
    by_cases hlt : k < L.length
    · obtain ⟨b, off, rfl, hbl, hc⟩ := HL.out k hlt
      have hz := HZ.out L[k] (List.getElem_mem hlt)
      have hc' : wr.cell? ⟨b, off + k, none⟩ = some (.string L[k]) := (hb.cell (p := ⟨b, off + k, none⟩) hbl).trans hc
      have hm := catE_more v L k hlt
      have hle := catE_take_le v L (k + 1)
      have HS : Hid (∀ w', Gr w w' → Calls Tryd.prog 13 #[.int .i64 v, .string L[k]] w' fun e w2 => e = .returned (.tuple #[.string ⟨(Sl.sealE v L[k].data.toList).1.toArray⟩, .int .i64 (Sl.sealE v L[k].data.toList).2]) ∧ Gr w' w2) := fun w' g => seal_any v L[k] w' (HT.out.gr g) hz
      have HG2 : Hid (goodE v L = ((Sl.sealE v L[k].data.toList).2 == 0 && goodE v (L.drop (k + 1)))) := by
        show _ = _
        rw [HG.out, List.drop_eq_getElem_cons hlt]; rfl
      have hea := endsL_more v L k
      have ha := add_lists (catE v (L.take k)) (Sl.sealE v L[k].data.toList).1 (by rw [hm, List.length_append] at hle; omega)
      rw [← hm] at ha
      obtain ⟨⟨f, e⟩, hf⟩ : ∃ r, Sl.sealE v L[k].data.toList = r := ⟨_, rfl⟩
      rw [hf] at HS HG2 ha
      simp only at HS HG2 ha
      obtain ⟨sv, hsv⟩ : ∃ sv, L[k] = sv := ⟨_, rfl⟩
      rw [hsv] at hc' HS
      clear hc hf hm hsv hz
      by_cases he : e = 0
      · subst he
        have HG3 : Hid (goodE v L = goodE v (L.drop (k + 1))) := by show _ = _; rw [HG2.out]; simp
        have hm1 : k + 1 ≤ maxLen := by unfold maxLen; omega
        have hcl : (⟨(catE v (L.take (k + 1))).toArray⟩ : ByteArray).size = (catE v (L.take (k + 1))).length := by simp [ByteArray.size]
        have HE : Hid (intV (endsL v L (k + 1)) = intV (endsL v L k) ++ [.int .i64 ((catE v (L.take (k + 1))).length : Int)]) := by
          show _ = _
          rw [hea]; simp [intV]
        clear hea
        go_wp2_with fail
        refine (HS.out _ ⟨hb⟩).mono ?_
        rintro e w2 ⟨rfl, hg2⟩
        have hown2 := hown.kept hg2.grownBy (own_or _)
        have hb2 : Below w.heap.size w w2 := hb.trans (hg2.below.mono hbs)
        have hbs2 := hb2.size
        go_wp2_with (first
          | (at_builtin; refine wpList_append_own _ rfl _ _ 40 rfl w.heap.size 3 i0 (.int .i64 0) 1 8 Tryd.underlying40 hi hz0 hz1 hz2 rfl (by decide) _ _ _ rfl (hown2.alloc _) ⟨w2.heap.size, 0, none⟩ 1 1 [.int .i64 ((catE v (L.take (k + 1))).length : Int)] rfl rfl (cell_one_new _ _ _) (by intro u hu; simp at hu; subst hu; rfl) hm1 (by omega) (by simp; omega) ?_)
          | fail)
        intro v' w1 hown' hgrow _
        go_wp2
        go_roundw
        case rel =>
          exact ⟨k + 1, by omega, by go_num, rfl, by rw [HE.out]; exact hown', HG3.out, (hb2.alloc hbs2 _).grown hgrow (by simp; omega) (fun k hk => (hown2.lt k hk).1)⟩
        case measure => simp [intOf]; omega
      · have HG3 : Hid (goodE v L = false) := by
          show _ = _
          rw [HG2.out]; simp [he]
        have hne : ((e : Int) != 0) = true := by rw [bne_iff_ne]; omega
        clear ha
        go_wp2_with fail
        refine (HS.out _ ⟨hb⟩).mono ?_
        rintro e w2 ⟨rfl, hg2⟩
        go_wp2
        go_ret3
        exact ⟨Or.inr ⟨HG3.out, rfl⟩, ⟨hb.trans (hg2.below.mono hbs)⟩⟩
    · have hkl : k = L.length := by omega
      subst hkl
      have HG3 : Hid (goodE v L = true) := by
        show _ = _
        rw [HG.out, List.drop_length]; rfl
      have key : ∀ {u : Value}, wr.ownsRow w.heap.size 3 1 u L.length (intV (endsL v L L.length)) → ∃ ad2 cap2, u = .slice ad2 L.length cap2 ∧ IntsAt wr ad2 (endsL v L L.length) := by
        intro u h
        have := own_ints (l := endsL v L L.length) (by rw [endsL_len]; exact h)
        rw [endsL_len] at this
        exact this
      obtain ⟨ad2, cap2, rfl, hia⟩ := key hown
      have HI : Hid (IntsAt wr ad2 (endsL v L L.length)) := hia
      have htk : L.take L.length = L := List.take_length
      clear hown key hia
      go_wp2
      go_ret3
      exact ⟨Or.inl ⟨HG3.out, ad2, cap2, by rw [htk]; rfl, HI.out⟩, ⟨hb⟩⟩
end Go.Proofs.YtpdcnnlbafcohaaDoor
