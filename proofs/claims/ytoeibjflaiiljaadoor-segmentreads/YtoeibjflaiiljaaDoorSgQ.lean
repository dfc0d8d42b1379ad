
/- Plain mathematics of segments: what was laid is found. -/
import Derived.Test.YtoeibjflaiiljaaDoorSgM
namespace Go.Proofs.YtoeibjflaiiljaaDoor.Sg
open Dk (Fl zf)

theorem smallF_sizes (l : List ByteArray) : ∀ n, n ≤ 50000 → Pk.smallF n l = true → n + (l.map (fun s => s.size)).sum + 10 * l.length ≤ 50000 := by
  induction l with
  | nil => intro n h _; simpa using h
  | cons s r ih =>
    intro n hn h
    rw [Pk.smallF] at h
    split at h
    · cases h
    · rename_i hb
      have := ih _ (by omega) h
      rw [List.map_cons, List.sum_cons, List.length_cons]
      omega
theorem small_frs (l : List ByteArray) (h : Pk.small l = true) : (frs l).length ≤ 150000 ∧ l.length ≤ 5000 ∧ ∀ s ∈ l, s.size ≤ 50000 := by
  have h1 := smallF_sizes l 0 (by omega) h
  have h2 := frs_len l
  exact ⟨by omega, (Pk.small_sum l h).2.1, (Pk.small_sum l h).2.2⟩

theorem open_front (b R : List UInt8) (hb : b.length ≤ 30000) (c : Nat) (h0 : 0 < c) (hc : c ≤ (Sl.frame 3 b ++ R).length) :
    Sl.openE ((Sl.frame 3 b ++ R).take c) 0 3 = if (Sl.frame 3 b).length ≤ c then (b, (Sl.frame 3 b).length, 0) else ([], 0, 10) := by
  have h1 : Sl.openE (Sl.frame 3 b ++ R) ((0 : Nat) : Int) ((3 : Nat) : Int) = (b, (Sl.frame 3 b).length, 0) := by
    have := Sl.open_whole [] R b 3 (by decide) hb
    simpa using this
  exact Sl.open_cut (Sl.frame 3 b ++ R) 0 c 3 b _ h1 h0 hc
theorem cut_all (l : List (List UInt8)) (hg : ∀ b ∈ l, b.length ≤ 30000) : Sl.cutE (Sl.cat 3 l) 3 = (l, (Sl.cat 3 l).length, 0) := by
  have := Sl.cut_cat 3 (Sl.cat 3 l).length l.length (by decide) l hg (Nat.le_refl _) (Nat.le_refl _) (Or.inl (by rw [List.take_length]; exact Nat.le_refl _)) (Or.inl rfl)
  rw [List.take_length, List.take_length, if_neg (by omega)] at this
  exact this
theorem mk_list (l : List UInt8) : (⟨l.toArray⟩ : ByteArray).data.toList = l := by simp
theorem cat_len (v : Nat) (l : List (List UInt8)) (k : Nat) : (Sl.cat v (l.take k)).length ≤ (Sl.cat v l).length := by
  have e : Sl.cat v l = Sl.cat v (l.take k) ++ Sl.cat v (l.drop k) := by rw [← Sl.cat_append, List.take_append_drop]
  rw [e, List.length_append]; omega
theorem frame_pos (v : Nat) (b : List UInt8) : 0 < (Sl.frame v b).length := by rw [Sl.frame_len]; omega

/- one file: a head and frames, cut -/
theorem look_cut (k y : Int) (b : List UInt8) (l : List (List UInt8)) (hb : b.length ≤ 30000) (hg : ∀ x ∈ l, x.length ≤ 30000) (c n : Nat) (h0 : (Sl.frame 3 b).length ≤ c) (hc : c ≤ (Sl.cat 3 (b :: l)).length) (hn : n ≤ l.length) (h2 : (Sl.cat 3 (b :: l.take n)).length ≤ c) (h3 : n = l.length ∨ c < (Sl.cat 3 (b :: l.take (n + 1))).length) :
    look [⟨k, ⟨((Sl.cat 3 (b :: l)).take c).toArray⟩, y⟩] = ⟨k, (Sl.cat 3 (b :: l.take n)).length, b :: l.take n, [], 0⟩ := by
  have hh : hd ⟨k, ⟨((Sl.cat 3 (b :: l)).take c).toArray⟩, y⟩ = 0 := by
    unfold hd
    simp only
    rw [Sl.cat_cons, open_front b _ hb c (by have := frame_pos 3 b; omega) (by rw [← Sl.cat_cons]; exact hc), if_pos h0]
  have hcu := Sl.cut_cat 3 c (n + 1) (by decide) (b :: l) (by intro x hx; rcases List.mem_cons.1 hx with rfl | hx; exact hb; exact hg x hx) hc (by simp; omega) (Or.inl (by rw [List.take_succ_cons]; exact h2)) (by rw [List.take_succ_cons]; simp; omega)
  rw [List.take_succ_cons] at hcu
  unfold look
  rw [if_pos (by rfl)]
  have hlw : lw [⟨k, ⟨((Sl.cat 3 (b :: l)).take c).toArray⟩, y⟩] 1 = (0, 0) := by
    rw [lw, at_eq _ 0 (by simp)]
    rw [if_pos (by simpa using hh)]
    rfl
  rw [show [(⟨k, ⟨((Sl.cat 3 (b :: l)).take c).toArray⟩, y⟩ : Fl)].length = 1 from rfl, hlw, if_pos rfl, if_neg (by decide)]
  unfold found
  rw [show ((0 : Int), (0 : Int)).1.toNat = 0 from rfl, at_eq _ 0 (by simp)]
  simp only [List.getElem_cons_zero]
  unfold cut
  simp only

  have hcu' : Sl.cutE ((Sl.cat 3 (b :: l)).take c) 3 = (b :: l.take n, (Sl.cat 3 (b :: l.take n)).length, if (Sl.cat 3 (b :: l.take n)).length < c then 10 else 0) := hcu
  rw [hcu', if_pos (by simp only; split <;> simp)]
  rfl
/- a file below a torn head -/
theorem look_torn2 (b : List UInt8) (l : List (List UInt8)) (t : List UInt8) (hb : b.length ≤ 30000) (hg : ∀ x ∈ l, x.length ≤ 30000) (ht : t.length ≤ 30000) (c : Nat) (h0 : 0 < c) (hc : c < (Sl.frame 3 t).length) :
    look [⟨1, ⟨(Sl.cat 3 (b :: l)).toArray⟩, 0⟩, ⟨2, ⟨((Sl.frame 3 t).take c).toArray⟩, 0⟩] = ⟨1, (Sl.cat 3 (b :: l)).length, b :: l, [2], 0⟩ := by
  have hh : hd ⟨1, ⟨(Sl.cat 3 (b :: l)).toArray⟩, 0⟩ = 0 := by
    unfold hd
    simp only
    rw [Sl.cat_cons]
    have := open_front b (Sl.cat 3 l) hb _ (by have := frame_pos 3 b; rw [List.length_append]; omega) (Nat.le_refl _)
    rw [List.take_length, if_pos (by rw [List.length_append]; omega)] at this
    rw [this]
  have hk : hd ⟨2, ⟨((Sl.frame 3 t).take c).toArray⟩, 0⟩ = 10 := by
    unfold hd
    simp only

    have := open_front t [] ht c h0 (by rw [List.append_nil]; omega)
    rw [List.append_nil, if_neg (by omega)] at this
    rw [this]
  have hcu := cut_all (b :: l) (by intro x hx; rcases List.mem_cons.1 hx with rfl | hx; exact hb; exact hg x hx)
  generalize (⟨((Sl.frame 3 t).take c).toArray⟩ : ByteArray) = z at *
  unfold look
  rw [if_pos (by rfl), show [(⟨1, ⟨(Sl.cat 3 (b :: l)).toArray⟩, 0⟩ : Fl), ⟨2, z, 0⟩].length = 2 from rfl]
  have hlw : lw [(⟨1, ⟨(Sl.cat 3 (b :: l)).toArray⟩, 0⟩ : Fl), ⟨2, z, 0⟩] 2 = (0, 0) := by
    rw [lw, at_eq _ 1 (by simp), if_neg (by simp [hk]), if_pos (by simpa using hk), lw, at_eq _ 0 (by simp), if_pos (by simpa using hh)]
    rfl
  rw [hlw, if_pos rfl, if_neg (by decide)]
  unfold found
  rw [show ((0 : Int), (0 : Int)).1.toNat = 0 from rfl, at_eq _ 0 (by simp)]
  simp only [List.getElem_cons_zero]
  unfold cut
  simp only
  rw [hcu, if_pos (Or.inl rfl)]
  rfl
/- a file below a whole one -/
theorem look_over (d : ByteArray) (t : List UInt8) (ht : t.length ≤ 30000) :
    look [⟨1, d, 0⟩, ⟨2, ⟨(Sl.frame 3 t).toArray⟩, 0⟩] = ⟨2, (Sl.frame 3 t).length, [t], [1], 0⟩ := by
  have hk : hd ⟨2, ⟨(Sl.frame 3 t).toArray⟩, 0⟩ = 0 := by
    unfold hd
    simp only

    have := open_front t [] ht (Sl.frame 3 t).length (frame_pos 3 t) (by rw [List.append_nil]; exact Nat.le_refl _)
    rw [List.append_nil, List.take_length, if_pos (Nat.le_refl _)] at this
    rw [this]
  have hcu := cut_all [t] (by intro x hx; simp at hx; subst hx; exact ht)
  rw [show Sl.cat 3 [t] = Sl.frame 3 t by simp [Sl.cat]] at hcu
  unfold look
  rw [if_pos (by rfl), show [(⟨1, d, 0⟩ : Fl), ⟨2, ⟨(Sl.frame 3 t).toArray⟩, 0⟩].length = 2 from rfl]
  have hlw : lw [(⟨1, d, 0⟩ : Fl), ⟨2, ⟨(Sl.frame 3 t).toArray⟩, 0⟩] 2 = (1, 0) := by
    rw [lw, at_eq _ 1 (by simp), if_pos (by simpa using hk)]
    rfl
  rw [hlw, if_pos rfl, if_neg (by decide)]
  unfold found
  rw [show ((1 : Int), (0 : Int)).1.toNat = 1 from rfl, at_eq _ 1 (by simp)]
  simp only [List.getElem_cons_succ, List.getElem_cons_zero]
  unfold cut
  simp only
  rw [hcu, if_pos (Or.inl rfl)]
  rfl
end Go.Proofs.YtoeibjflaiiljaaDoor.Sg
