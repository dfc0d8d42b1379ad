/- Parts of these proofs, laid together. -/
import Derived.Test.YtojmhhmpmpbpfaaGreatDoorGD
import Derived.Test.YtojmhhmpmpbpfaaGreatDoorGE
import Derived.Test.YtojmhhmpmpbpfaaGreatDoorGA
namespace Go.Proofs.YtojmhhmpmpbpfaaGreatDoor.Sg
open Dk (Fl zf)

/- the numbers rise -/
def rise : List Fl → Bool
  | [] => true
  | [_] => true
  | a :: b :: r => decide (a.n < b.n) && rise (b :: r)
theorem rise_iff : ∀ (L : List Fl), rise L = true ↔ ∀ i (h : i + 1 < L.length), (L[i]'(by omega)).n < L[i + 1].n
  | [] => by simp [rise]
  | [_] => by simp [rise]
  | a :: b :: r => by
    rw [rise, Bool.and_eq_true, decide_eq_true_eq, rise_iff (b :: r)]
    constructor
    · rintro ⟨h0, h1⟩ i h
      match i, h with
      | 0, _ => exact h0
      | i + 1, h => exact h1 i (by simpa using h)
    · intro h
      refine ⟨h 0 (by simp), fun i hi => ?_⟩
      exact h (i + 1) (by simpa using hi)
theorem rise_not (L : List Fl) (i : Nat) (h : i + 1 < L.length) (hn : L[i + 1].n ≤ (L[i]'(by omega)).n) : rise L = false := by
  rcases hr : rise L with _ | _
  · rfl
  · have := (rise_iff L).1 hr i h
    omega

/- how a file's head stands: 0 whole, 10 not whole, else wrong -/
def hd (f : Fl) : Nat := (Sl.openE f.d.data.toList 0 3).2.2
def at' (L : List Fl) (k : Nat) : Fl := (L[k]?).getD (zf 0)
theorem at_eq (L : List Fl) (k : Nat) (h : k < L.length) : at' L k = L[k] := by
  unfold at'; rw [List.getElem?_eq_getElem h]; rfl
/- the last file below k whose head is whole: its place, or -1; the error -/
def lw (L : List Fl) : Nat → Int × Int
  | 0 => (-1, 0)
  | k + 1 => if hd (at' L k) = 0 then ((k : Int), 0) else if hd (at' L k) = 10 then lw L k else (-1, 170)
theorem lw_range (L : List Fl) : ∀ k, (lw L k = (-1, 0) ∨ lw L k = (-1, 170)) ∨ ∃ p, p < k ∧ lw L k = ((p : Int), 0) ∧ hd (at' L p) = 0
  | 0 => Or.inl (Or.inl rfl)
  | k + 1 => by
    rw [lw]
    split
    · exact Or.inr ⟨k, by omega, rfl, by assumption⟩
    · split
      · rcases lw_range L k with h | ⟨p, h1, h2⟩
        · exact Or.inl h
        · exact Or.inr ⟨p, by omega, h2⟩
      · exact Or.inl (Or.inr rfl)
def nums (L : List Fl) : List Int := L.map (fun f => f.n)
def drops (L : List Fl) (p : Nat) : List Int := nums (L.take p) ++ nums (L.drop (p + 1))

/- what Look answers -/
structure An where
  num : Int
  good : Nat
  bodies : List (List UInt8)
  drop : List Int
  err : Int
def bad (e : Int) : An := ⟨0, 0, [], [], e⟩
def cut (f : Fl) : List (List UInt8) × Nat × Nat := Sl.cutE f.d.data.toList 3
def found (L : List Fl) (p : Nat) : An :=
  if (cut (at' L p)).2.2 = 0 ∨ (cut (at' L p)).2.2 = 10 then ⟨(at' L p).n, (cut (at' L p)).2.1, (cut (at' L p)).1, drops L p, 0⟩ else bad 170
def look (L : List Fl) : An :=
  if rise L = true then
    (if (lw L L.length).2 = 0 then (if (lw L L.length).1 = -1 then ⟨-1, 0, [], nums L, 0⟩ else found L (lw L L.length).1.toNat) else bad 170)
  else bad 2

/- what Next makes -/
def frs (L : List ByteArray) : List UInt8 := L.flatMap fun s => (Sl.sealE 3 s.data.toList).1
def fit (L : List ByteArray) : Bool := L.all fun s => decide (s.size ≤ 30000)
def next (L : List ByteArray) : List UInt8 × Nat := if fit L = true then (frs L, 0) else ([], 3)
theorem seal3 (s : ByteArray) : Sl.sealE 3 s.data.toList = if s.size ≤ 30000 then (Sl.frame 3 s.data.toList, 0) else ([], 3) := by
  unfold Sl.sealE
  rw [if_pos (by decide)]
  have : s.data.toList.length = s.size := by simp
  rw [this]
  rfl
theorem frs_cat (L : List ByteArray) (h : fit L = true) : frs L = Sl.cat 3 (L.map (fun s => s.data.toList)) := by
  unfold frs Sl.cat
  rw [List.flatMap_map]
  have h' := List.all_eq_true.1 h
  induction L with
  | nil => rfl
  | cons s l ih =>
    rw [List.flatMap_cons, List.flatMap_cons, ih (List.all_eq_true.2 fun x hx => h' x (by simp [hx])) (fun x hx => h' x (by simp [hx])), seal3, if_pos (by simpa using h' s (by simp))]
theorem frs_more (L : List ByteArray) (k : Nat) (h : k < L.length) : frs (L.take (k + 1)) = frs (L.take k) ++ (Sl.sealE 3 L[k].data.toList).1 := by
  unfold frs; rw [List.take_succ_eq_append_getElem h, List.flatMap_append]; simp
theorem frs_take_le (L : List ByteArray) (k : Nat) : (frs (L.take k)).length ≤ (frs L).length := by
  have e : frs L = frs (L.take k) ++ frs (L.drop k) := by
    have := congrArg frs (List.take_append_drop k L)
    exact this.symm.trans (by unfold frs; rw [List.flatMap_append])
  rw [e, List.length_append]; omega
theorem fit_take (L : List ByteArray) (k : Nat) (h : k < L.length) (hf : fit (L.take k) = true) : fit (L.take (k + 1)) = decide (L[k].size ≤ 30000) := by
  unfold fit at hf ⊢
  rw [List.take_succ_eq_append_getElem h, List.all_append, hf]
  simp
theorem fit_not (L : List ByteArray) (k : Nat) (h : k < L.length) (hb : ¬ L[k].size ≤ 30000) : fit L = false := by
  rcases hf : fit L with _ | _
  · rfl
  · have := List.all_eq_true.1 hf L[k] (List.getElem_mem h)
    simp at this
    omega
theorem seal_len (s : ByteArray) : (Sl.sealE 3 s.data.toList).1.length ≤ s.size + 20 := by
  rw [seal3]
  have h1 := Sl.frame_len 3 s.data.toList
  have h2 := Pk.num_len s.data.toList.length
  have h3 : s.data.toList.length = s.size := by simp
  split
  · simp only; omega
  · simp
theorem frs_len (L : List ByteArray) : (frs L).length ≤ (L.map (fun s => s.size)).sum + 20 * L.length := by
  induction L with
  | nil => simp [frs]
  | cons s l ih =>
    have e1 : frs (s :: l) = (Sl.sealE 3 s.data.toList).1 ++ frs l := by simp [frs]
    have := seal_len s
    rw [e1, List.length_append, List.length_cons, List.map_cons, List.sum_cons]
    omega
end Go.Proofs.YtojmhhmpmpbpfaaGreatDoor.Sg
namespace Go.Proofs.YtojmhhmpmpbpfaaGreatDoor.Sg
open Dk (Fl zf)

theorem smallF_sizes (l : List ByteArray) : ∀ n, n ≤ 50000 → Pk.smallF n l = true → n + (l.map (fun s => s.size)).sum + 10 * l.length ≤ 50000 := by
  induction l with
  | nil => intro n h _; simpa using h
  | cons s r ih =>
    intro n hn h
    rw [Pk.smallF] at h
    split at h
    · cases h
    · rename_i hb
      have := ih _ (by omega) h
      rw [List.map_cons, List.sum_cons, List.length_cons]
      omega
theorem small_frs (l : List ByteArray) (h : Pk.small l = true) : (frs l).length ≤ 150000 ∧ l.length ≤ 5000 ∧ ∀ s ∈ l, s.size ≤ 50000 := by
  have h1 := smallF_sizes l 0 (by omega) h
  have h2 := frs_len l
  exact ⟨by omega, (Pk.small_sum l h).2.1, (Pk.small_sum l h).2.2⟩

theorem open_front (b R : List UInt8) (hb : b.length ≤ 30000) (c : Nat) (h0 : 0 < c) (hc : c ≤ (Sl.frame 3 b ++ R).length) :
    Sl.openE ((Sl.frame 3 b ++ R).take c) 0 3 = if (Sl.frame 3 b).length ≤ c then (b, (Sl.frame 3 b).length, 0) else ([], 0, 10) := by
  have h1 : Sl.openE (Sl.frame 3 b ++ R) ((0 : Nat) : Int) ((3 : Nat) : Int) = (b, (Sl.frame 3 b).length, 0) := by
    have := Sl.open_whole [] R b 3 (by decide) hb
    simpa using this
  exact Sl.open_cut (Sl.frame 3 b ++ R) 0 c 3 b _ h1 h0 hc
theorem cut_all (l : List (List UInt8)) (hg : ∀ b ∈ l, b.length ≤ 30000) : Sl.cutE (Sl.cat 3 l) 3 = (l, (Sl.cat 3 l).length, 0) := by
  have := Sl.cut_cat 3 (Sl.cat 3 l).length l.length (by decide) l hg (Nat.le_refl _) (Nat.le_refl _) (Or.inl (by rw [List.take_length]; exact Nat.le_refl _)) (Or.inl rfl)
  rw [List.take_length, List.take_length, if_neg (by omega)] at this
  exact this
theorem mk_list (l : List UInt8) : (⟨l.toArray⟩ : ByteArray).data.toList = l := by simp
theorem cat_len (v : Nat) (l : List (List UInt8)) (k : Nat) : (Sl.cat v (l.take k)).length ≤ (Sl.cat v l).length := by
  have e : Sl.cat v l = Sl.cat v (l.take k) ++ Sl.cat v (l.drop k) := by rw [← Sl.cat_append, List.take_append_drop]
  rw [e, List.length_append]; omega
theorem frame_pos (v : Nat) (b : List UInt8) : 0 < (Sl.frame v b).length := by rw [Sl.frame_len]; omega

/- one file: a head and frames, cut -/
theorem look_cut (k y : Int) (b : List UInt8) (l : List (List UInt8)) (hb : b.length ≤ 30000) (hg : ∀ x ∈ l, x.length ≤ 30000) (c n : Nat) (h0 : (Sl.frame 3 b).length ≤ c) (hc : c ≤ (Sl.cat 3 (b :: l)).length) (hn : n ≤ l.length) (h2 : (Sl.cat 3 (b :: l.take n)).length ≤ c) (h3 : n = l.length ∨ c < (Sl.cat 3 (b :: l.take (n + 1))).length) :
    look [⟨k, ⟨((Sl.cat 3 (b :: l)).take c).toArray⟩, y⟩] = ⟨k, (Sl.cat 3 (b :: l.take n)).length, b :: l.take n, [], 0⟩ := by
  have hh : hd ⟨k, ⟨((Sl.cat 3 (b :: l)).take c).toArray⟩, y⟩ = 0 := by
    unfold hd
    simp only
    rw [Sl.cat_cons, open_front b _ hb c (by have := frame_pos 3 b; omega) (by rw [← Sl.cat_cons]; exact hc), if_pos h0]
  have hcu := Sl.cut_cat 3 c (n + 1) (by decide) (b :: l) (by intro x hx; rcases List.mem_cons.1 hx with rfl | hx; exact hb; exact hg x hx) hc (by simp; omega) (Or.inl (by rw [List.take_succ_cons]; exact h2)) (by rw [List.take_succ_cons]; simp; omega)
  rw [List.take_succ_cons] at hcu
  unfold look
  rw [if_pos (by rfl)]
  have hlw : lw [⟨k, ⟨((Sl.cat 3 (b :: l)).take c).toArray⟩, y⟩] 1 = (0, 0) := by
    rw [lw, at_eq _ 0 (by simp)]
    rw [if_pos (by simpa using hh)]
    rfl
  rw [show [(⟨k, ⟨((Sl.cat 3 (b :: l)).take c).toArray⟩, y⟩ : Fl)].length = 1 from rfl, hlw, if_pos rfl, if_neg (by decide)]
  unfold found
  rw [show ((0 : Int), (0 : Int)).1.toNat = 0 from rfl, at_eq _ 0 (by simp)]
  simp only [List.getElem_cons_zero]
  unfold cut
  simp only

  have hcu' : Sl.cutE ((Sl.cat 3 (b :: l)).take c) 3 = (b :: l.take n, (Sl.cat 3 (b :: l.take n)).length, if (Sl.cat 3 (b :: l.take n)).length < c then 10 else 0) := hcu
  rw [hcu', if_pos (by simp only; split <;> simp)]
  rfl
/- a file below a torn head -/
theorem look_torn2 (b : List UInt8) (l : List (List UInt8)) (t : List UInt8) (hb : b.length ≤ 30000) (hg : ∀ x ∈ l, x.length ≤ 30000) (ht : t.length ≤ 30000) (c : Nat) (h0 : 0 < c) (hc : c < (Sl.frame 3 t).length) :
    look [⟨1, ⟨(Sl.cat 3 (b :: l)).toArray⟩, 0⟩, ⟨2, ⟨((Sl.frame 3 t).take c).toArray⟩, 0⟩] = ⟨1, (Sl.cat 3 (b :: l)).length, b :: l, [2], 0⟩ := by
  have hh : hd ⟨1, ⟨(Sl.cat 3 (b :: l)).toArray⟩, 0⟩ = 0 := by
    unfold hd
    simp only
    rw [Sl.cat_cons]
    have := open_front b (Sl.cat 3 l) hb _ (by have := frame_pos 3 b; rw [List.length_append]; omega) (Nat.le_refl _)
    rw [List.take_length, if_pos (by rw [List.length_append]; omega)] at this
    rw [this]
  have hk : hd ⟨2, ⟨((Sl.frame 3 t).take c).toArray⟩, 0⟩ = 10 := by
    unfold hd
    simp only

    have := open_front t [] ht c h0 (by rw [List.append_nil]; omega)
    rw [List.append_nil, if_neg (by omega)] at this
    rw [this]
  have hcu := cut_all (b :: l) (by intro x hx; rcases List.mem_cons.1 hx with rfl | hx; exact hb; exact hg x hx)
  generalize (⟨((Sl.frame 3 t).take c).toArray⟩ : ByteArray) = z at *
  unfold look
  rw [if_pos (by rfl), show [(⟨1, ⟨(Sl.cat 3 (b :: l)).toArray⟩, 0⟩ : Fl), ⟨2, z, 0⟩].length = 2 from rfl]
  have hlw : lw [(⟨1, ⟨(Sl.cat 3 (b :: l)).toArray⟩, 0⟩ : Fl), ⟨2, z, 0⟩] 2 = (0, 0) := by
    rw [lw, at_eq _ 1 (by simp), if_neg (by simp [hk]), if_pos (by simpa using hk), lw, at_eq _ 0 (by simp), if_pos (by simpa using hh)]
    rfl
  rw [hlw, if_pos rfl, if_neg (by decide)]
  unfold found
  rw [show ((0 : Int), (0 : Int)).1.toNat = 0 from rfl, at_eq _ 0 (by simp)]
  simp only [List.getElem_cons_zero]
  unfold cut
  simp only
  rw [hcu, if_pos (Or.inl rfl)]
  rfl
/- a file below a whole one -/
theorem look_over (d : ByteArray) (t : List UInt8) (ht : t.length ≤ 30000) :
    look [⟨1, d, 0⟩, ⟨2, ⟨(Sl.frame 3 t).toArray⟩, 0⟩] = ⟨2, (Sl.frame 3 t).length, [t], [1], 0⟩ := by
  have hk : hd ⟨2, ⟨(Sl.frame 3 t).toArray⟩, 0⟩ = 0 := by
    unfold hd
    simp only

    have := open_front t [] ht (Sl.frame 3 t).length (frame_pos 3 t) (by rw [List.append_nil]; exact Nat.le_refl _)
    rw [List.append_nil, List.take_length, if_pos (Nat.le_refl _)] at this
    rw [this]
  have hcu := cut_all [t] (by intro x hx; simp at hx; subst hx; exact ht)
  rw [show Sl.cat 3 [t] = Sl.frame 3 t by simp [Sl.cat]] at hcu
  unfold look
  rw [if_pos (by rfl), show [(⟨1, d, 0⟩ : Fl), ⟨2, ⟨(Sl.frame 3 t).toArray⟩, 0⟩].length = 2 from rfl]
  have hlw : lw [(⟨1, d, 0⟩ : Fl), ⟨2, ⟨(Sl.frame 3 t).toArray⟩, 0⟩] 2 = (1, 0) := by
    rw [lw, at_eq _ 1 (by simp), if_pos (by simpa using hk)]
    rfl
  rw [hlw, if_pos rfl, if_neg (by decide)]
  unfold found
  rw [show ((1 : Int), (0 : Int)).1.toNat = 1 from rfl, at_eq _ 1 (by simp)]
  simp only [List.getElem_cons_succ, List.getElem_cons_zero]
  unfold cut
  simp only
  rw [hcu, if_pos (Or.inl rfl)]
  rfl
end Go.Proofs.YtojmhhmpmpbpfaaGreatDoor.Sg
namespace Go.Proofs.YtojmhhmpmpbpfaaGreatDoor.Wl
open Dk (Fl St Ok Up Fo zf get has del ins put used appE appS stpE stpS cntE cntS fst siz)

/- a frame of a log, as bytes -/
def fr (b : ByteArray) : ByteArray := ⟨(Sl.frame 3 b.data.toList).toArray⟩
theorem fr_size (b : ByteArray) : (fr b).size = (Sl.frame 3 b.data.toList).length := by simp [fr, ByteArray.size]
/- a log: the file's number, how many bytes it has, whether it is broken -/
structure Lg where
  n : Int
  z : Int
  br : Bool
/- a file with a head: its size, the error, the disk -/
def beg (s : St) (n : Int) (b : ByteArray) : Int × Int × St :=
  if b.size ≤ 30000 then
    (if appE s n (fr b) = 0 then (((fr b).size : Int), stpE (appS s n (fr b)) 1 n 0, stpS (appS s n (fr b)) 1 n 0) else (0, appE s n (fr b), appS s n (fr b)))
  else (0, 3, s)
/- files are removed -/
def drp : St → List Int → Int × St
  | s, [] => (0, s)
  | s, n :: r => if stpE s 3 n 0 = 0 then drp (stpS s 3 n 0) r else (stpE s 3 n 0, stpS s 3 n 0)
/- the file is cut to what is good -/
def trm (s : St) (n : Int) (g : Nat) : Int × St :=
  if g < (get s.L n).d.size then (stpE s 2 n g, stpS s 2 n g) else (0, s)
structure Op where
  lg : Option Lg
  bo : List (List UInt8)
  er : Int
  st : St
def opn (s : St) (b : ByteArray) : Op :=
  if s.dead = true then ⟨none, [], 150, s⟩
  else if (Sg.look s.L).err = 0 then
    (if (Sg.look s.L).num < 0 then
      (if (drp s (Sg.look s.L).drop).1 = 0 then
        (if (beg (drp s (Sg.look s.L).drop).2 1 b).2.1 = 0 then ⟨some ⟨1, (beg (drp s (Sg.look s.L).drop).2 1 b).1, false⟩, [b.data.toList], 0, (beg (drp s (Sg.look s.L).drop).2 1 b).2.2⟩
        else ⟨none, [], (beg (drp s (Sg.look s.L).drop).2 1 b).2.1, (beg (drp s (Sg.look s.L).drop).2 1 b).2.2⟩)
      else ⟨none, [], (drp s (Sg.look s.L).drop).1, (drp s (Sg.look s.L).drop).2⟩)
    else
      (if (trm s (Sg.look s.L).num (Sg.look s.L).good).1 = 0 then
        (if (drp (trm s (Sg.look s.L).num (Sg.look s.L).good).2 (Sg.look s.L).drop).1 = 0 then ⟨some ⟨(Sg.look s.L).num, (Sg.look s.L).good, false⟩, (Sg.look s.L).bodies, 0, (drp (trm s (Sg.look s.L).num (Sg.look s.L).good).2 (Sg.look s.L).drop).2⟩
        else ⟨none, [], (drp (trm s (Sg.look s.L).num (Sg.look s.L).good).2 (Sg.look s.L).drop).1, (drp (trm s (Sg.look s.L).num (Sg.look s.L).good).2 (Sg.look s.L).drop).2⟩)
      else ⟨none, [], (trm s (Sg.look s.L).num (Sg.look s.L).good).1, (trm s (Sg.look s.L).num (Sg.look s.L).good).2⟩))
  else ⟨none, [], (Sg.look s.L).err, s⟩
/- an error by which a log may break -/
def tol (l : Lg) (e : Int) : Lg := if e = 150 then { l with br := true } else l
def apn (s : St) (l : Lg) (b : ByteArray) : Int × St × Lg :=
  if l.br = true then (150, s, l)
  else if b.size ≤ 30000 then
    (if appE s l.n (fr b) = 0 then (stpE (appS s l.n (fr b)) 1 l.n 0, stpS (appS s l.n (fr b)) 1 l.n 0, tol { l with z := l.z + (fr b).size } (stpE (appS s l.n (fr b)) 1 l.n 0))
    else (appE s l.n (fr b), appS s l.n (fr b), tol l (appE s l.n (fr b))))
  else (3, s, l)
def trn (s : St) (l : Lg) (b : ByteArray) : Int × St × Lg :=
  if l.br = true then (150, s, l)
  else if l.n = 1000000 then (151, s, l)
  else if (beg s (l.n + 1) b).2.1 = 0 then
    (stpE (beg s (l.n + 1) b).2.2 3 l.n 0, stpS (beg s (l.n + 1) b).2.2 3 l.n 0, tol ⟨l.n + 1, (beg s (l.n + 1) b).1, false⟩ (stpE (beg s (l.n + 1) b).2.2 3 l.n 0))
  else ((beg s (l.n + 1) b).2.1, (beg s (l.n + 1) b).2.2, tol l (beg s (l.n + 1) b).2.1)
theorem Ok.beg {s : St} (h : Ok s) (n : Int) (b : ByteArray) : Ok (beg s n b).2.2 := by
  unfold Wl.beg
  split
  · split
    · exact (h.app _ _).stp _ _ _
    · exact h.app _ _
  · exact h
theorem Ok.drp {s : St} (h : Ok s) (l : List Int) : Ok (drp s l).2 := by
  induction l generalizing s with
  | nil => exact h
  | cons n r ih =>
    unfold Wl.drp
    split
    · exact ih (h.stp _ _ _)
    · exact h.stp _ _ _
theorem Ok.trm {s : St} (h : Ok s) (n : Int) (g : Nat) : Ok (trm s n g).2 := by
  unfold Wl.trm
  split
  · exact h.stp _ _ _
  · exact h
theorem Ok.opn {s : St} (h : Ok s) (b : ByteArray) : Ok (opn s b).st := by
  unfold Wl.opn
  split
  · exact h
  · split
    · split
      · split
        · split
          · exact Ok.beg (Ok.drp h _) _ _
          · exact Ok.beg (Ok.drp h _) _ _
        · exact Ok.drp h _
      · split
        · split
          · exact Ok.drp (Ok.trm h _ _) _
          · exact Ok.drp (Ok.trm h _ _) _
        · exact Ok.trm h _ _
    · exact h
theorem Ok.apn {s : St} (h : Ok s) (l : Lg) (b : ByteArray) : Ok (apn s l b).2.1 := by
  unfold Wl.apn
  split
  · exact h
  · split
    · split
      · exact (h.app _ _).stp _ _ _
      · exact h.app _ _
    · exact h
theorem Ok.trn {s : St} (h : Ok s) (l : Lg) (b : ByteArray) : Ok (trn s l b).2.1 := by
  unfold Wl.trn
  split
  · exact h
  · split
    · exact h
    · split
      · exact (Ok.beg h _ _).stp _ _ _
      · exact Ok.beg h _ _
end Go.Proofs.YtojmhhmpmpbpfaaGreatDoor.Wl
namespace Go.Proofs.YtojmhhmpmpbpfaaGreatDoor.Wl
open Dk (Fl St Ok Up Fo zf get has del ins put used appE appS stpE stpS cntE cntS chS fst siz fallA cutF one kf ext emp)

theorem ext_take (l : List UInt8) (k : Nat) : (⟨l.toArray⟩ : ByteArray).extract 0 k = ⟨(l.take k).toArray⟩ := by
  have h : ((⟨l.toArray⟩ : ByteArray).extract 0 k).data.toList = l.take k := by
    rw [ByteArray.data_extract, Array.toList_extract]
    simp [List.extract]
  cases hx : (⟨l.toArray⟩ : ByteArray).extract 0 k with
  | mk d =>
    rw [hx] at h
    have h2 : d.toList = l.take k := h
    rw [← h2]
theorem mk_size (l : List UInt8) : (⟨l.toArray⟩ : ByteArray).size = l.length := by simp [ByteArray.size]
theorem mk_app (a b : List UInt8) : (⟨a.toArray⟩ : ByteArray) ++ ⟨b.toArray⟩ = ⟨(a ++ b).toArray⟩ := by rw [ByteArray.mk_append_mk]

/- a count -/
theorem cnt_or (s : St) : (cntE s = 0 ∧ (cntS s).L = s.L ∧ (cntS s).dead = s.dead ∧ (cntS s).room = s.room) ∨ (cntE s = 150 ∧ s.left ≠ 0 ∧ cntS s = Dk.fall s s.keep) := by
  unfold cntE cntS
  by_cases h : s.left = 0
  · rw [if_pos h, if_pos h]; exact Or.inl ⟨rfl, rfl, rfl, rfl⟩
  · rw [if_neg h, if_neg h]
    split
    · exact Or.inl ⟨rfl, rfl, rfl, rfl⟩
    · exact Or.inr ⟨rfl, h, rfl⟩
theorem cnt_zero {s : St} (h : s.left = 0) : cntE s = 0 ∧ cntS s = s := by
  unfold cntE cntS
  rw [if_pos h, if_pos h]
  exact ⟨rfl, rfl⟩
/- all is synced: a fall changes nothing -/
def Sy (L : List Fl) : Prop := ∀ f ∈ L, f.y = f.d.size ∧ 1 ≤ f.d.size
theorem cut_same {f : Fl} (h : f.y = f.d.size) (k : Int) : cutF k f = f := by
  unfold cutF
  have e : f.y + min (max k 0) ((f.d.size : Int) - f.y) = f.d.size := by omega
  rw [e]
  have e2 : f.d.extract 0 ((f.d.size : Int)).toNat = f.d := by simp
  rw [e2, ← h]
theorem fall_same {K : Nat → Int} {i : Nat} {L : List Fl} (h : Sy L) : fallA K i L = L := by
  induction L generalizing i with
  | nil => rfl
  | cons f r ih =>
    have h1 := h f (by simp)
    simp only [fallA]
    unfold Dk.one
    rw [cut_same h1.1, if_neg (by omega), ih (fun g hg => h g (by simp [hg]))]
    rfl

/- a disk with power and these files; one that is dead, with these -/
structure At (s : St) (L : List Fl) : Prop where
  eq : s.L = L
  up : s.dead = false
  ok : Ok s
structure Dn (s : St) (L : List Fl) : Prop where
  eq : s.L = L
  dn : s.dead = true
  left : s.left = 0
  ok : Ok s
theorem Dn.boot {s : St} {L : List Fl} (h : Dn s L) : At (Dk.booS s) L ∧ (Dk.booS s).left = 0 := ⟨⟨h.eq, rfl, h.ok.boo⟩, h.left⟩
theorem At.boot {s : St} {L : List Fl} (h : At s L) : At (Dk.booS s) L := ⟨h.eq, rfl, h.ok.boo⟩
theorem At.arm {s : St} {L : List Fl} (h : At s L) {n : Int} (hn : n ≤ 9223372036854775807) (keep : List Int) : At (Dk.armS s n keep) L := by
  refine ⟨?_, ?_, h.ok.arm hn keep⟩
  · unfold Dk.armS
    rw [h.up]
    split
    · rename_i c; cases c
    · split
      · exact h.eq
      · exact h.eq
  · unfold Dk.armS
    rw [h.up]
    split
    · rename_i c; cases c
    · split
      · exact h.up
      · rfl
/- a step on a file that is there -/
theorem step_or {s : St} {L : List Fl} (h : At s L) {q n k : Int} (hh : has L n = true) (hq : ¬ (q = 2 ∧ (k < 1 ∨ ((get L n).d.size : Int) < k))) :
    (stpE s q n k = 0 ∧ At (stpS s q n k) (put (fst (get L n) (siz q (get L n) k)) L) ∧ (s.left = 0 → (stpS s q n k).left = 0)) ∨ (stpE s q n k = 150 ∧ s.left ≠ 0 ∧ Dn (stpS s q n k) (fallA (kf s.keep) 0 L)) := by
  have hok := h.ok.stp q n k
  have e1 : stpE s q n k = cntE s := by
    unfold stpE
    rw [h.up, h.eq, hh]
    simp only [Bool.false_eq_true, if_false]
    rw [if_neg (by simp), if_neg hq]
  have e2 : stpS s q n k = chS s (fst (get L n) (siz q (get L n) k)) := by
    unfold stpS
    rw [h.up, h.eq, hh]
    simp only [Bool.false_eq_true, if_false]
    rw [if_neg (by simp), if_neg hq]
  rw [e2] at hok
  rw [e1, e2]
  rcases cnt_or s with ⟨c1, c2, c3, c4⟩ | ⟨c1, c2, c3⟩
  · left
    have e3 : chS s (fst (get L n) (siz q (get L n) k)) = { cntS s with L := put (fst (get L n) (siz q (get L n) k)) s.L } := by unfold chS; rw [if_pos c1]
    rw [e3] at hok ⊢
    refine ⟨c1, ⟨by show put _ s.L = _; rw [h.eq], by show (cntS s).dead = false; rw [c3, h.up], hok⟩, fun hl => ?_⟩
    show (cntS s).left = 0
    rw [(cnt_zero hl).2]; exact hl
  · right
    have e3 : chS s (fst (get L n) (siz q (get L n) k)) = cntS s := by unfold chS; rw [if_neg (by omega)]
    rw [e3, c3] at hok ⊢
    exact ⟨c1, c2, ⟨by show fallA (kf s.keep) 0 s.L = _; rw [h.eq], rfl, rfl, hok⟩⟩
/- an append that is not empty -/
theorem app_or {s : St} {L : List Fl} (h : At s L) {n : Int} {d : ByteArray} (h0 : 0 ≤ n) (h1 : n ≤ 1000000) (hd : d.size ≠ 0) :
    (appE s n d = 151 ∧ appS s n d = s) ∨ (appE s n d = 0 ∧ At (appS s n d) (ins (ext L n d) L) ∧ (s.left = 0 → (appS s n d).left = 0) ∧ (appS s n d).room = s.room) ∨ (appE s n d = 150 ∧ s.left ≠ 0 ∧ Dn (appS s n d) (fallA (kf s.keep) 0 (ins (ext L n d) L))) := by
  have hok := h.ok.app n d
  by_cases hf : (has s.L n = false ∧ 8 ≤ s.L.length) ∨ s.room < (used s.L : Int) + d.size
  · left
    unfold appE appS
    rw [h.up, if_neg (by simp), if_neg (by omega), if_pos hf, if_neg (by simp), if_neg (by omega), if_pos hf]
    exact ⟨rfl, rfl⟩
  · right
    have e1 : appE s n d = cntE s := by
      unfold appE
      rw [h.up, if_neg (by simp), if_neg (by omega), if_neg hf, if_neg hd]
    have e2 : appS s n d = cntS { s with L := ins (ext s.L n d) s.L } := by
      unfold appS
      rw [h.up, if_neg (by simp), if_neg (by omega), if_neg hf, if_neg hd, ← h.up]
    rw [e2] at hok
    rw [e1, e2]
    have e3 : cntE s = cntE { s with L := ins (ext s.L n d) s.L } := rfl
    rw [e3]
    rcases cnt_or { s with L := ins (ext s.L n d) s.L } with ⟨c1, c2, c3, c4⟩ | ⟨c1, c2, c3⟩
    · refine Or.inl ⟨c1, ⟨by rw [c2, h.eq], by rw [c3]; exact h.up, hok⟩, fun hl => ?_, c4⟩
      rw [(cnt_zero (s := { s with L := ins (ext s.L n d) s.L }) hl).2]; exact hl
    · refine Or.inr ⟨c1, c2, ?_⟩
      rw [c3] at hok ⊢
      exact ⟨by show fallA (kf s.keep) 0 (ins (ext s.L n d) s.L) = _; rw [h.eq], rfl, rfl, hok⟩
theorem app_full {s : St} {L : List Fl} (h : At s L) {n : Int} {d : ByteArray} (h0 : 0 ≤ n) (h1 : n ≤ 1000000) (hl : L.length < 8) (hd : (used L : Int) + d.size ≤ s.room) : appE s n d ≠ 151 := by
  unfold appE
  rw [h.up, if_neg (by simp), if_neg (by omega), h.eq, if_neg (by omega)]
  split
  · decide
  · rcases cnt_or s with c | c
    · rw [c.1]; decide
    · rw [c.1]; decide
end Go.Proofs.YtojmhhmpmpbpfaaGreatDoor.Wl
namespace Go.Proofs.YtojmhhmpmpbpfaaGreatDoor
open Go.RowKit

set_option maxHeartbeats 1000000 in
set_option maxRecDepth 100000 in
theorem refSum_any (s : ByteArray) (w : World) (hs : s.size ≤ 9223372036854775807) :
    Calls Tryz.prog 87 #[.string s] w fun e w' => e = .returned (.int .u64 (Sl.sum s.data.toList : Nat)) ∧ w' = w := by
  have hl : s.data.toList.length = s.size := by simp
  go_enter Tryz.func87, Tryz.ntmps87
  go_wp2
  go_loop [3, 4] (fun r i => ∃ j x : Nat, j ≤ s.size ∧ x < 18446744073709551616 ∧ i = .int .i64 j ∧ r = .int .u64 x ∧ x = Sl.crc Sl.ones (s.data.toList.take j)) (fun _ i => s.size - (intOf i).toNat)
  case atStart => exact ⟨0, 18446744073709551615, by omega, by omega, rfl, rfl, rfl⟩
  case round =>
    obtain ⟨j, x, hj, hx, rfl, rfl, hp⟩ := hrel
    have HP : Hid (x = Sl.crc Sl.ones (s.data.toList.take j)) := hp
    clear hp
    by_cases hlt : j < s.size
    · have h8 : (s[j]'hlt).toNat < 256 := (s[j]'hlt).toNat_lt
      have HN : Hid (Sl.crc Sl.ones (s.data.toList.take (j + 1)) = Sl.zs 8 (x ^^^ (s[j]'hlt).toNat)) := by
        show _ = _
        rw [List.take_succ_eq_append_getElem (by rw [hl]; exact hlt), Sl.crc_snoc, ← HP.out]; rfl
      go_wp2
      go_loop [3, 5] (fun r i => ∃ k y : Nat, k ≤ 8 ∧ y < 18446744073709551616 ∧ i = .int .i64 k ∧ r = .int .u64 y ∧ y = Sl.zs k (x ^^^ ((s[j]'hlt).toNat % 2 ^ k))) (fun _ i => 8 - (intOf i).toNat)
      case atStart => exact ⟨0, x, by omega, hx, rfl, rfl, by simp [Sl.zs, Nat.mod_one]⟩
      case round =>
        obtain ⟨k, y, hk, hy, rfl, rfl, hq⟩ := hrel
        have HQ : Hid (y = Sl.zs k (x ^^^ ((s[j]'hlt).toNat % 2 ^ k))) := hq
        clear hq
        by_cases hlt2 : k < 8
        · have HB : Hid (Sl.zs (k + 1) (x ^^^ ((s[j]'hlt).toNat % 2 ^ (k + 1))) = (y / 2) ^^^ (if y % 2 ≠ (s[j]'hlt).toNat / 2 ^ k % 2 then Sl.poly else 0)) := by
            show _ = _
            rw [Sl.zs_bit, ← HQ.out, Sl.z_bit _ _ (by omega)]
          have hdv : (s[j]'hlt).toNat / 2 ^ k < 256 := Nat.lt_of_le_of_lt (Nat.div_le_self _ _) h8
          have hwr : (IntKind.u64.wrap (((s[j]'hlt).toNat : Int) / 2 ^ k)).tmod 2 = (((s[j]'hlt).toNat / 2 ^ k % 2 : Nat) : Int) := by
            have e : ((s[j]'hlt).toNat : Int) / 2 ^ k = (((s[j]'hlt).toNat / 2 ^ k : Nat) : Int) := by simp
            rw [e]
            generalize (s[j]'hlt).toNat / 2 ^ k = q at *
            rw [w64 _ (by omega) (by omega), Int.tmod_eq_emod_of_nonneg (by omega)]; omega
          have hp2 := bits_xor_u64_nat (y / 2) Sl.poly (by omega) (by decide)
          by_cases hd : y % 2 = (s[j]'hlt).toNat / 2 ^ k % 2
          · have hb : ((y : Int) % 2 != (IntKind.u64.wrap (((s[j]'hlt).toNat : Int) / 2 ^ k)).tmod 2) = false := by
              have e : (y : Int) % 2 = (((s[j]'hlt).toNat / 2 ^ k % 2 : Nat) : Int) := by rw [← hd]; omega
              rw [hwr, e]; exact bne_self_eq_false _
            have HE : Hid (Sl.zs (k + 1) (x ^^^ ((s[j]'hlt).toNat % 2 ^ (k + 1))) = y / 2) := by
              show _ = _
              rw [HB.out, if_neg (by simpa using hd)]; simp
            clear hwr hp2 hdv
            go_wp2
            go_round
            case rel => exact ⟨k + 1, y / 2, by omega, by omega, by go_num, by go_num, HE.out.symm⟩
            case measure => simp [intOf]; omega
          · have hb : ((y : Int) % 2 != (IntKind.u64.wrap (((s[j]'hlt).toNat : Int) / 2 ^ k)).tmod 2) = true := by
              rw [hwr, bne_iff_ne]
              intro h
              have e : ((y % 2 : Nat) : Int) = (((s[j]'hlt).toNat / 2 ^ k % 2 : Nat) : Int) := by rw [← h]; omega
              exact hd (Int.ofNat_inj.1 e)
            have HE : Hid (Sl.zs (k + 1) (x ^^^ ((s[j]'hlt).toNat % 2 ^ (k + 1))) = (y / 2) ^^^ Sl.poly) := by
              show _ = _
              rw [HB.out, if_pos hd]
            have HP2 : Hid (bits .xor .u64 ((y : Int) / 2) 14514072000185962306 = (((y / 2) ^^^ Sl.poly : Nat) : Int)) := by
              show _ = _
              have e : (y : Int) / 2 = ((y / 2 : Nat) : Int) := by omega
              rw [e]; exact hp2
            clear hwr hp2 hdv
            go_wp2
            go_round
            case rel => exact ⟨k + 1, (y / 2) ^^^ Sl.poly, by omega, Nat.xor_lt_two_pow (n := 64) (by omega) (by decide), by go_num, by rw [HP2.out], HE.out.symm⟩
            case measure => simp [intOf]; omega
        · have HR : Hid (Sl.crc Sl.ones (s.data.toList.take (j + 1)) = y) := by
            show _ = _
            have hk8 : k = 8 := by omega
            subst hk8
            rw [HN.out, HQ.out, Nat.mod_eq_of_lt (by simpa using h8)]
          go_wp2
          go_round
          case rel => exact ⟨j + 1, y, by omega, hy, by go_num, rfl, HR.out.symm⟩
          case measure => simp [intOf]; omega
    · have hjl : j = s.size := by omega
      have HR : Hid (Sl.sum s.data.toList = 18446744073709551615 - x) := by
        show _ = _
        rw [HP.out, hjl, ← hl, List.take_length]; rfl
      go_wp2
      go_ret
      rw [HR.out]
      exact ⟨by go_num, rfl⟩
end Go.Proofs.YtojmhhmpmpbpfaaGreatDoor
