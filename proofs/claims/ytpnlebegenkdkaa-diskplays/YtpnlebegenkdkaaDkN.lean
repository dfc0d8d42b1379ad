
/- Plain mathematics of disks, the second part: what was synced stays; behind a crash each file is a beginning of what it was. -/
import Derived.Test.YtpnlebegenkdkaaDkM
namespace Go.Proofs.Ytpnlebegenkdkaa.Dk

theorem ex_ex (d : ByteArray) {i j : Nat} (h : i ≤ j) : (d.extract 0 j).extract 0 i = d.extract 0 i := by
  rw [ByteArray.extract_extract]
  simp [Nat.min_eq_left h]
theorem ex_all (d : ByteArray) {j : Nat} (h : d.size ≤ j) : d.extract 0 j = d := by
  have := ByteArray.extract_zero_max_size (a := d) (i := j)
  rwa [Nat.max_eq_left h] at this
theorem ex_app (d e : ByteArray) {i : Nat} (h : i ≤ d.size) : (d ++ e).extract 0 i = d.extract 0 i := by
  have e1 : e.extract (0 - d.size) (i - d.size) = ByteArray.empty := ByteArray.extract_eq_empty_iff.2 (by omega)
  rw [ByteArray.extract_append, e1, ByteArray.append_empty]
def Sf (s : St) (n : Int) (a : ByteArray) : Prop := a.size = 0 ∨ ∃ f ∈ s.L, f.n = n ∧ (a.size : Int) ≤ f.y ∧ f.d.extract 0 a.size = a
theorem cut_pre {k : Int} {f : Fl} {a : ByteArray} (hf : Fo f) (h1 : (a.size : Int) ≤ f.y) (h2 : f.d.extract 0 a.size = a) : (a.size : Int) ≤ (cutF k f).y ∧ (cutF k f).d.extract 0 a.size = a := by
  have h3 := cut_le (k := k) hf
  refine ⟨by omega, ?_⟩
  have h4 : a.size ≤ (cutF k f).y.toNat := by omega
  show (f.d.extract 0 (cutF k f).y.toNat).extract 0 a.size = a
  rw [ex_ex _ h4, h2]
theorem Sf.fall {s : St} {n : Int} {a : ByteArray} (h : Sf s n a) (hk : Ok s) (keep : List Int) : Sf (fall s keep) n a := by
  rcases h with h | ⟨f, h1, h2, h3, h4⟩
  · exact Or.inl h
  · by_cases c : a.size = 0
    · exact Or.inl c
    · obtain ⟨k, h5 | h5⟩ := fall_of (K := kf keep) (i := 0) h1
      · have := (cut_pre (k := k) (hk.fo f h1) h3 h4).1; omega
      · exact Or.inr ⟨_, h5, h2, cut_pre (hk.fo f h1) h3 h4⟩
theorem Sf.cnt {s : St} {n : Int} {a : ByteArray} (h : Sf s n a) (hk : Ok s) : Sf (cntS s) n a := by
  unfold cntS
  split
  · exact h
  · split
    · exact h
    · exact h.fall hk _
theorem Sf.app {s : St} {n : Int} {a : ByteArray} (h : Sf s n a) (hk : Ok s) (m : Int) (d : ByteArray) : Sf (appS s m d) n a := by
  unfold appS
  split
  · exact h
  · split
    · exact h
    · split
      · exact h
      · split
        · exact h
        · rename_i c1 c2 c3 c4
          refine Sf.cnt ?_ (hk.ext c2 c3 c4).2
          rcases h with h | ⟨f, h1, h2, h3, h4⟩
          · exact Or.inl h
          · by_cases c : f.n = m
            · have e : get s.L m = f := by rw [← c]; exact get_of hk.up h1
              have := (hk.fo f h1).y1
              refine Or.inr ⟨_, self_ins _ _, by rw [← h2, c]; rfl, by simp only [Dk.ext, e]; exact h3, ?_⟩
              simp only [Dk.ext, e]
              rw [ex_app _ _ (by omega), h4]
            · exact Or.inr ⟨f, mem_ins_of h1 c, h2, h3, h4⟩
theorem Sf.put {s : St} {n : Int} {a : ByteArray} (h : Sf s n a) {f : Fl} {k : Int} (hu : Up s.L) (hf : f ∈ s.L) (hy : f.y ≤ f.d.size) (hk : f.n = n → k = f.d.size ∧ 0 < f.d.size) : Sf { s with L := put (fst f k) s.L } n a := by
  rcases h with h | ⟨g, h1, h2, h3, h4⟩
  · exact Or.inl h
  · by_cases c : g.n = f.n
    · obtain rfl := hu.inj h1 hf c
      obtain ⟨e, e0⟩ := hk h2
      have e1 : emp (fst g k) = false := by
        have : ¬ k = 0 := by omega
        simp only [emp, fst, this, decide_false, Bool.and_false]
      have e2 : (fst g k).d = g.d := by
        show g.d.extract 0 k.toNat = g.d
        exact ex_all _ (by omega)
      refine Or.inr ⟨fst g k, ?_, h2, by show (a.size : Int) ≤ k; omega, by rw [e2]; exact h4⟩
      show fst g k ∈ Dk.put (fst g k) s.L
      unfold Dk.put
      rw [e1]
      exact self_ins _ _
    · refine Or.inr ⟨g, ?_, h2, h3, h4⟩
      show g ∈ Dk.put (fst f k) s.L
      unfold Dk.put
      split
      · exact List.mem_filter.2 ⟨h1, decide_eq_true (show g.n ≠ f.n from c)⟩
      · exact mem_ins_of h1 c
theorem cnt_L {s : St} (c : cntE s = 0) : (cntS s).L = s.L := by
  unfold cntE at c
  unfold cntS
  split
  · rfl
  · rename_i c1
    rw [if_neg c1] at c
    split
    · rfl
    · rename_i c2; rw [if_neg c2] at c; cases c
theorem Sf.ch {s : St} {n : Int} {a : ByteArray} (h : Sf s n a) (hok : Ok s) {f : Fl} {k : Int} (hf : f ∈ s.L) (hk : f.n = n → k = f.d.size ∧ 0 < f.d.size) : Sf (chS s (fst f k)) n a := by
  unfold chS
  split
  · rename_i c
    have h1 := h.cnt hok
    have h2 := hok.cnt
    have e := cnt_L c
    rw [← e] at hf ⊢
    exact h1.put h2.up hf (h2.fo f hf).y1 hk
  · exact h.cnt hok
theorem Sf.stp {s : St} {n : Int} {a : ByteArray} (h : Sf s n a) (hok : Ok s) {q m k : Int} (hq : m = n → q = 1) : Sf (stpS s q m k) n a := by
  unfold stpS
  split
  · exact h
  · split
    · exact h
    · rename_i c
      split
      · exact h
      · have hh : has s.L m = true := by cases e : has s.L m with | true => rfl | false => exact absurd e c
        obtain ⟨g1, g2⟩ := get_mem hh
        refine h.ch hok g1 (fun e => ?_)
        have := (hok.fo _ g1).d1
        rw [hq (g2.symm.trans e)]
        exact ⟨rfl, this⟩
theorem Sf.arm {s : St} {n : Int} {a : ByteArray} (h : Sf s n a) (k : Int) (keep : List Int) : Sf (armS s k keep) n a := by
  unfold armS
  split
  · exact h
  · split
    · exact h
    · exact h
theorem Sf.cra {s : St} {n : Int} {a : ByteArray} (h : Sf s n a) (hk : Ok s) (keep : List Int) : Sf (craS s keep) n a := by
  unfold craS
  split
  · exact h
  · exact h.fall hk _
theorem Sf.boo {s : St} {n : Int} {a : ByteArray} (h : Sf s n a) : Sf (booS s) n a := h
/- what holds of it -/
theorem Sf.get {s : St} {n : Int} {a : ByteArray} (h : Sf s n a) (hk : Ok s) (ha : 0 < a.size) : has s.L n = true ∧ (a.size : Int) ≤ (get s.L n).y ∧ a.size ≤ (get s.L n).d.size ∧ (get s.L n).d.extract 0 a.size = a := by
  rcases h with h | ⟨f, h1, h2, h3, h4⟩
  · omega
  · subst h2
    have := (hk.fo f h1).y1
    rw [get_of hk.up h1]
    exact ⟨has_of h1, h3, by omega, h4⟩
/- behind a crash -/
theorem crash_now {K : Nat → Int} {L : List Fl} (hu : Up L) (hf : ∀ f ∈ L, Fo f) {g : Fl} (h : g ∈ fallA K 0 L) :
    has L g.n = true ∧ (get L g.n).y ≤ g.d.size ∧ g.d.size ≤ (get L g.n).d.size ∧ (get L g.n).d.extract 0 g.d.size = g.d ∧ g.y = g.d.size ∧ g.d.size ≠ 0 := by
  obtain ⟨k, f, h1, rfl, h2⟩ := fall_mem h
  have e : get L (cutF k f).n = f := get_of hu h1
  have h3 := cut_size (k := k) (hf f h1)
  have h4 := cut_le (k := k) (hf f h1)
  rw [e]
  refine ⟨(has_of h1 : has L f.n = true), by omega, by omega, ?_, h3.symm, by omega⟩
  show f.d.extract 0 _ = f.d.extract 0 (cutF k f).y.toNat
  congr 1
  omega
theorem crash_was {K : Nat → Int} {L : List Fl} (hf : ∀ f ∈ L, Fo f) {f : Fl} (h : f ∈ L) (hy : 0 < f.y) : has (fallA K 0 L) f.n = true := by
  obtain ⟨k, h1 | h1⟩ := fall_of (K := K) (i := 0) h
  · have := (cut_le (k := k) (hf f h)).2; omega
  · exact (has_of h1 : has _ (cutF k f).n = true)
end Go.Proofs.Ytpnlebegenkdkaa.Dk
