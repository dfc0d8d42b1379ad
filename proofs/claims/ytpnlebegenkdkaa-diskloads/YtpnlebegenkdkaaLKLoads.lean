
/- For every room, every row of files and every row of acts: a disk is made of the document's files alone, and then answers as its (DiskLoads, P15.1); no condition. -/
import Derived.Test.YtpnlebegenkdkaaOpenK
import Derived.Test.YtpnlebegenkdkaaPkD
import Derived.Test.YtpnlebegenkdkaaPkE
namespace Go.Proofs.Ytpnlebegenkdkaa
open Go.ChangeShapes Go.WideShapes Go.ChangeAt Go.RowKit
open Dk (Fl Fo St Ok Up zf used)
theorem ab_of {w : World} {ad : Option Addr} {T : List Ac} (h : Acts w ad T) (hf : fewB T = true) {x : Ac} (hx : x ∈ T) : Ab w x := ⟨h.each x hx, by have := (fewA_in T (Int.le_refl 0) hf x hx).1; omega⟩
/- how many bytes, by the statement's own count -/
def sz3 (l : List Fl) : Nat := (l.map (fun f => min f.d.size 300000)).sum
theorem sz3_take {l : List Fl} {k : Nat} (h : k < l.length) : sz3 (l.take (k + 1)) = sz3 (l.take k) + min l[k].d.size 300000 := by
  unfold sz3
  rw [List.take_succ_eq_append_getElem h, List.map_append, List.sum_append]
  simp
theorem sz3_le (l : List Fl) : sz3 l ≤ l.length * 300000 := by
  unfold sz3
  induction l with
  | nil => simp
  | cons f t ih =>
    rw [List.map_cons, List.sum_cons, List.length_cons, Nat.add_mul]
    have : min f.d.size 300000 ≤ 300000 := Nat.min_le_right _ _
    omega
theorem sz3_sum : ∀ (l : List Fl) (c : Nat), c ≤ 300000 → sz3 l ≤ c → (∀ f ∈ l, f.d.size ≤ 9223372036854775807) → used l ≤ c ∨ (c = 300000 ∧ used l ≤ 9223372036854775807)
  | [], _, _, _, _ => Or.inl (by simp [used])
  | f :: t, c, hc, h, hd => by
    have hu : used (f :: t) = f.d.size + used t := by simp [used]
    have hs : sz3 (f :: t) = min f.d.size 300000 + sz3 t := by simp [sz3]
    have hf := hd f (by simp)
    have ih := sz3_sum t (c - min f.d.size 300000) (by omega) (by omega) (fun g hg => hd g (by simp [hg]))
    rcases ih with ih | ⟨ih1, ih2⟩
    · by_cases h3 : f.d.size ≤ 300000
      · left; omega
      · right; omega
    · have : f.d.size = 0 := by omega
      right; omega
theorem sum_in {l : List Fl} (h : sz3 l ≤ 300000) (hd : ∀ f ∈ l, f.d.size ≤ 9223372036854775807) : used l ≤ 9223372036854775807 := by
  rcases sz3_sum l 300000 (Nat.le_refl _) h hd with h1 | h1
  · omega
  · exact h1.2
/- behind the first loop: how many it has counted -/
def cntL (l : List Fl) : Nat := sz3 (l.take 100)
set_option maxHeartbeats 16000000 in
set_option maxRecDepth 100000 in
theorem loads_l1 (room : Int) (l : List Fl) (T : List Ac) (al ad : Option Addr) (cl cap : Nat) (w : World) (hL : RowAt flf w al l) (hln : l.length ≤ 9223372036854775807) (hsz : ∀ f ∈ l, f.d.size ≤ 9223372036854775807) (hT : Acts w ad T) (h1 : 100 < (l.length : Int)) :
    Calls Try.prog 4 #[.int .i64 room, .slice al l.length cl, .slice ad T.length cap] w fun e w' => e = .returned (.bool true) ∧ Gr w w' := by
  have HAw : Hid (∀ w', Calls Try.prog 10 #[] w' fun e w2 => e = .returned (.bool true) ∧ Gr w' w2) := fun w' => awake_any w'
  have HF : Hid (∀ w', Gr w w' → Calls Try.prog 9 #[.slice ad T.length cap] w' fun e w2 => e = .returned (.bool (fewB T)) ∧ Gr w' w2) := fun w' g => few_any T ad cap w' (hT.gr g)
  have HL := Lib.hid hL
  have hlT := hT.len
  have HSz := Lib.hid hsz
  clear hL hT hsz
  go_enter Try.func4, Try.ntmps4
  go_wp2
  go_loopw [8, 7] (fun i c wr => ∃ k : Nat, k ≤ l.length ∧ k ≤ 100 ∧ i = .int .i64 (k : Int) ∧ c = .int .i64 (sz3 (l.take k) : Int) ∧ wr = w) (fun i _ _ => 100 - (intOf i).toNat)
  case atStart => exact ⟨0, Nat.zero_le _, by omega, rfl, rfl, rfl⟩
  case round =>
    obtain ⟨k, hk, hk100, rfl, rfl, rfl⟩ := hrel
    by_cases hlt : k < l.length ∧ k < 100
    · obtain ⟨hk1, hk2⟩ := hlt
      obtain ⟨x, off, hade, hxb, c0, c1, c2⟩ := fl_at HL.out k hk1
      have HU := Lib.hid (sz3_take hk1)
      have hub : sz3 (l.take k) ≤ 30000000 := by
        have h5 := sz3_le (l.take k)
        rw [List.length_take] at h5
        have : min k l.length ≤ 100 := by omega
        have := Nat.mul_le_mul_right 300000 this
        omega
      have hds := HSz.out _ (List.getElem_mem hk1)
      have d1 : decide ((k : Int) < (l.length : Int)) = true := decide_eq_true (by omega)
      have d2 : decide ((k : Int) < 100) = true := decide_eq_true (by omega)
      subst hade
      clear c0 c2
      generalize l[k] = f at *
      generalize sz3 (l.take k) = us at *
      obtain ⟨fn, fd, fy⟩ := f
      simp only at *
      go_wp2
      go_roundw
      case rel => exact ⟨k + 1, by omega, by omega, by simp, by (rw [HU.out]; simp; omega), by trivial⟩
      case measure => simp [intOf]; omega
    · have HK : Hid (sz3 (l.take k) = cntL l) := by
        show _ = _
        unfold cntL
        by_cases h9 : l.length ≤ 100
        · rw [List.take_of_length_le (by omega), List.take_of_length_le (by omega)]
        · rw [show k = 100 by omega]
      have dd : decide ((k : Int) < (l.length : Int)) = false ∨ (decide ((k : Int) < (l.length : Int)) = true ∧ decide ((k : Int) < 100) = false) := by
        by_cases h9 : k < l.length
        · exact Or.inr ⟨decide_eq_true (by omega), decide_eq_false (by omega)⟩
        · exact Or.inl (decide_eq_false (by omega))
      rw [HK.out]
      generalize hcn : cntL l = cn at *
      clear HK
      rcases dd with d1 | ⟨d1, d2⟩
      · skip
        go_wp2_with fail
        refine (HAw.out _).mono ?_
        rintro e w3 ⟨rfl, hg3⟩
        have G3 := Lib.hid ((Gr.refl _).trans hg3)
        clear hg3
        go_wp2
        go_ret
        exact ⟨rfl, G3.out⟩
      · skip
        go_wp2_with fail
        refine (HAw.out _).mono ?_
        rintro e w3 ⟨rfl, hg3⟩
        have G3 := Lib.hid ((Gr.refl _).trans hg3)
        clear hg3
        go_wp2
        go_ret
        exact ⟨rfl, G3.out⟩
set_option maxHeartbeats 16000000 in
set_option maxRecDepth 100000 in
theorem loads_l2 (room : Int) (l : List Fl) (T : List Ac) (al ad : Option Addr) (cl cap : Nat) (w : World) (hL : RowAt flf w al l) (hln : l.length ≤ 9223372036854775807) (hsz : ∀ f ∈ l, f.d.size ≤ 9223372036854775807) (hT : Acts w ad T) (h1 : ¬ 100 < (l.length : Int)) (h2 : 300000 < (cntL l : Int)) :
    Calls Try.prog 4 #[.int .i64 room, .slice al l.length cl, .slice ad T.length cap] w fun e w' => e = .returned (.bool true) ∧ Gr w w' := by
  have HAw : Hid (∀ w', Calls Try.prog 10 #[] w' fun e w2 => e = .returned (.bool true) ∧ Gr w' w2) := fun w' => awake_any w'
  have HF : Hid (∀ w', Gr w w' → Calls Try.prog 9 #[.slice ad T.length cap] w' fun e w2 => e = .returned (.bool (fewB T)) ∧ Gr w' w2) := fun w' g => few_any T ad cap w' (hT.gr g)
  have HL := Lib.hid hL
  have hlT := hT.len
  have HSz := Lib.hid hsz
  clear hL hT hsz
  go_enter Try.func4, Try.ntmps4
  go_wp2
  go_loopw [8, 7] (fun i c wr => ∃ k : Nat, k ≤ l.length ∧ k ≤ 100 ∧ i = .int .i64 (k : Int) ∧ c = .int .i64 (sz3 (l.take k) : Int) ∧ wr = w) (fun i _ _ => 100 - (intOf i).toNat)
  case atStart => exact ⟨0, Nat.zero_le _, by omega, rfl, rfl, rfl⟩
  case round =>
    obtain ⟨k, hk, hk100, rfl, rfl, rfl⟩ := hrel
    by_cases hlt : k < l.length ∧ k < 100
    · obtain ⟨hk1, hk2⟩ := hlt
      obtain ⟨x, off, hade, hxb, c0, c1, c2⟩ := fl_at HL.out k hk1
      have HU := Lib.hid (sz3_take hk1)
      have hub : sz3 (l.take k) ≤ 30000000 := by
        have h5 := sz3_le (l.take k)
        rw [List.length_take] at h5
        have : min k l.length ≤ 100 := by omega
        have := Nat.mul_le_mul_right 300000 this
        omega
      have hds := HSz.out _ (List.getElem_mem hk1)
      have d1 : decide ((k : Int) < (l.length : Int)) = true := decide_eq_true (by omega)
      have d2 : decide ((k : Int) < 100) = true := decide_eq_true (by omega)
      subst hade
      clear c0 c2
      generalize l[k] = f at *
      generalize sz3 (l.take k) = us at *
      obtain ⟨fn, fd, fy⟩ := f
      simp only at *
      go_wp2
      go_roundw
      case rel => exact ⟨k + 1, by omega, by omega, by simp, by (rw [HU.out]; simp; omega), by trivial⟩
      case measure => simp [intOf]; omega
    · have HK : Hid (sz3 (l.take k) = cntL l) := by
        show _ = _
        unfold cntL
        by_cases h9 : l.length ≤ 100
        · rw [List.take_of_length_le (by omega), List.take_of_length_le (by omega)]
        · rw [show k = 100 by omega]
      have dd : decide ((k : Int) < (l.length : Int)) = false ∨ (decide ((k : Int) < (l.length : Int)) = true ∧ decide ((k : Int) < 100) = false) := by
        by_cases h9 : k < l.length
        · exact Or.inr ⟨decide_eq_true (by omega), decide_eq_false (by omega)⟩
        · exact Or.inl (decide_eq_false (by omega))
      rw [HK.out]
      generalize hcn : cntL l = cn at *
      clear HK
      rcases dd with d1 | ⟨d1, d2⟩
      · skip
        go_wp2_with fail
        refine (HAw.out _).mono ?_
        rintro e w3 ⟨rfl, hg3⟩
        have G3 := Lib.hid ((Gr.refl _).trans hg3)
        clear hg3
        go_wp2
        go_ret
        exact ⟨rfl, G3.out⟩
      · skip
        go_wp2_with fail
        refine (HAw.out _).mono ?_
        rintro e w3 ⟨rfl, hg3⟩
        have G3 := Lib.hid ((Gr.refl _).trans hg3)
        clear hg3
        go_wp2
        go_ret
        exact ⟨rfl, G3.out⟩
set_option maxHeartbeats 16000000 in
set_option maxRecDepth 100000 in
theorem loads_l3 (room : Int) (l : List Fl) (T : List Ac) (al ad : Option Addr) (cl cap : Nat) (w : World) (hL : RowAt flf w al l) (hln : l.length ≤ 9223372036854775807) (hsz : ∀ f ∈ l, f.d.size ≤ 9223372036854775807) (hT : Acts w ad T) (h1 : ¬ 100 < (l.length : Int)) (h2 : ¬ 300000 < (cntL l : Int)) (h3 : fewB T = false) :
    Calls Try.prog 4 #[.int .i64 room, .slice al l.length cl, .slice ad T.length cap] w fun e w' => e = .returned (.bool true) ∧ Gr w w' := by
  have HAw : Hid (∀ w', Calls Try.prog 10 #[] w' fun e w2 => e = .returned (.bool true) ∧ Gr w' w2) := fun w' => awake_any w'
  have HF : Hid (∀ w', Gr w w' → Calls Try.prog 9 #[.slice ad T.length cap] w' fun e w2 => e = .returned (.bool (fewB T)) ∧ Gr w' w2) := fun w' g => few_any T ad cap w' (hT.gr g)
  have HL := Lib.hid hL
  have hlT := hT.len
  have HSz := Lib.hid hsz
  clear hL hT hsz
  rw [h3] at HF
  go_enter Try.func4, Try.ntmps4
  go_wp2
  go_loopw [8, 7] (fun i c wr => ∃ k : Nat, k ≤ l.length ∧ k ≤ 100 ∧ i = .int .i64 (k : Int) ∧ c = .int .i64 (sz3 (l.take k) : Int) ∧ wr = w) (fun i _ _ => 100 - (intOf i).toNat)
  case atStart => exact ⟨0, Nat.zero_le _, by omega, rfl, rfl, rfl⟩
  case round =>
    obtain ⟨k, hk, hk100, rfl, rfl, rfl⟩ := hrel
    by_cases hlt : k < l.length ∧ k < 100
    · obtain ⟨hk1, hk2⟩ := hlt
      obtain ⟨x, off, hade, hxb, c0, c1, c2⟩ := fl_at HL.out k hk1
      have HU := Lib.hid (sz3_take hk1)
      have hub : sz3 (l.take k) ≤ 30000000 := by
        have h5 := sz3_le (l.take k)
        rw [List.length_take] at h5
        have : min k l.length ≤ 100 := by omega
        have := Nat.mul_le_mul_right 300000 this
        omega
      have hds := HSz.out _ (List.getElem_mem hk1)
      have d1 : decide ((k : Int) < (l.length : Int)) = true := decide_eq_true (by omega)
      have d2 : decide ((k : Int) < 100) = true := decide_eq_true (by omega)
      subst hade
      clear c0 c2
      generalize l[k] = f at *
      generalize sz3 (l.take k) = us at *
      obtain ⟨fn, fd, fy⟩ := f
      simp only at *
      go_wp2
      go_roundw
      case rel => exact ⟨k + 1, by omega, by omega, by simp, by (rw [HU.out]; simp; omega), by trivial⟩
      case measure => simp [intOf]; omega
    · have HK : Hid (sz3 (l.take k) = cntL l) := by
        show _ = _
        unfold cntL
        by_cases h9 : l.length ≤ 100
        · rw [List.take_of_length_le (by omega), List.take_of_length_le (by omega)]
        · rw [show k = 100 by omega]
      have dd : decide ((k : Int) < (l.length : Int)) = false ∨ (decide ((k : Int) < (l.length : Int)) = true ∧ decide ((k : Int) < 100) = false) := by
        by_cases h9 : k < l.length
        · exact Or.inr ⟨decide_eq_true (by omega), decide_eq_false (by omega)⟩
        · exact Or.inl (decide_eq_false (by omega))
      rw [HK.out]
      generalize hcn : cntL l = cn at *
      clear HK
      rcases dd with d1 | ⟨d1, d2⟩
      · skip
        go_wp2_with fail
        refine (HF.out _ (Gr.refl _)).mono ?_
        rintro e w2 ⟨rfl, hg2⟩
        have G2 := Lib.hid hg2
        clear hg2
        go_wp2_with fail
        refine (HAw.out _).mono ?_
        rintro e w3 ⟨rfl, hg3⟩
        have G3 := Lib.hid (G2.out.trans hg3)
        clear hg3
        go_wp2
        go_ret
        exact ⟨rfl, G3.out⟩
      · skip
        go_wp2_with fail
        refine (HF.out _ (Gr.refl _)).mono ?_
        rintro e w2 ⟨rfl, hg2⟩
        have G2 := Lib.hid hg2
        clear hg2
        go_wp2_with fail
        refine (HAw.out _).mono ?_
        rintro e w3 ⟨rfl, hg3⟩
        have G3 := Lib.hid (G2.out.trans hg3)
        clear hg3
        go_wp2
        go_ret
        exact ⟨rfl, G3.out⟩
set_option maxHeartbeats 16000000 in
set_option maxRecDepth 100000 in
theorem loads_l4 (room : Int) (l : List Fl) (T : List Ac) (al ad : Option Addr) (cl cap : Nat) (w : World) (hL : RowAt flf w al l) (hln : l.length ≤ 9223372036854775807) (hsz : ∀ f ∈ l, f.d.size ≤ 9223372036854775807) (hT : Acts w ad T) (h1 : ¬ 100 < (l.length : Int)) (h2 : ¬ 300000 < (cntL l : Int)) (h3 : fewB T = true) (h4 : 30 < (T.length : Int)) :
    Calls Try.prog 4 #[.int .i64 room, .slice al l.length cl, .slice ad T.length cap] w fun e w' => e = .returned (.bool true) ∧ Gr w w' := by
  have HAw : Hid (∀ w', Calls Try.prog 10 #[] w' fun e w2 => e = .returned (.bool true) ∧ Gr w' w2) := fun w' => awake_any w'
  have HF : Hid (∀ w', Gr w w' → Calls Try.prog 9 #[.slice ad T.length cap] w' fun e w2 => e = .returned (.bool (fewB T)) ∧ Gr w' w2) := fun w' g => few_any T ad cap w' (hT.gr g)
  have HL := Lib.hid hL
  have hlT := hT.len
  have HSz := Lib.hid hsz
  clear hL hT hsz
  rw [h3] at HF
  go_enter Try.func4, Try.ntmps4
  go_wp2
  go_loopw [8, 7] (fun i c wr => ∃ k : Nat, k ≤ l.length ∧ k ≤ 100 ∧ i = .int .i64 (k : Int) ∧ c = .int .i64 (sz3 (l.take k) : Int) ∧ wr = w) (fun i _ _ => 100 - (intOf i).toNat)
  case atStart => exact ⟨0, Nat.zero_le _, by omega, rfl, rfl, rfl⟩
  case round =>
    obtain ⟨k, hk, hk100, rfl, rfl, rfl⟩ := hrel
    by_cases hlt : k < l.length ∧ k < 100
    · obtain ⟨hk1, hk2⟩ := hlt
      obtain ⟨x, off, hade, hxb, c0, c1, c2⟩ := fl_at HL.out k hk1
      have HU := Lib.hid (sz3_take hk1)
      have hub : sz3 (l.take k) ≤ 30000000 := by
        have h5 := sz3_le (l.take k)
        rw [List.length_take] at h5
        have : min k l.length ≤ 100 := by omega
        have := Nat.mul_le_mul_right 300000 this
        omega
      have hds := HSz.out _ (List.getElem_mem hk1)
      have d1 : decide ((k : Int) < (l.length : Int)) = true := decide_eq_true (by omega)
      have d2 : decide ((k : Int) < 100) = true := decide_eq_true (by omega)
      subst hade
      clear c0 c2
      generalize l[k] = f at *
      generalize sz3 (l.take k) = us at *
      obtain ⟨fn, fd, fy⟩ := f
      simp only at *
      go_wp2
      go_roundw
      case rel => exact ⟨k + 1, by omega, by omega, by simp, by (rw [HU.out]; simp; omega), by trivial⟩
      case measure => simp [intOf]; omega
    · have HK : Hid (sz3 (l.take k) = cntL l) := by
        show _ = _
        unfold cntL
        by_cases h9 : l.length ≤ 100
        · rw [List.take_of_length_le (by omega), List.take_of_length_le (by omega)]
        · rw [show k = 100 by omega]
      have dd : decide ((k : Int) < (l.length : Int)) = false ∨ (decide ((k : Int) < (l.length : Int)) = true ∧ decide ((k : Int) < 100) = false) := by
        by_cases h9 : k < l.length
        · exact Or.inr ⟨decide_eq_true (by omega), decide_eq_false (by omega)⟩
        · exact Or.inl (decide_eq_false (by omega))
      rw [HK.out]
      generalize hcn : cntL l = cn at *
      clear HK
      rcases dd with d1 | ⟨d1, d2⟩
      · skip
        go_wp2_with fail
        refine (HF.out _ (Gr.refl _)).mono ?_
        rintro e w2 ⟨rfl, hg2⟩
        have G2 := Lib.hid hg2
        clear hg2
        go_wp2_with fail
        refine (HAw.out _).mono ?_
        rintro e w3 ⟨rfl, hg3⟩
        have G3 := Lib.hid (G2.out.trans hg3)
        clear hg3
        go_wp2
        go_ret
        exact ⟨rfl, G3.out⟩
      · skip
        go_wp2_with fail
        refine (HF.out _ (Gr.refl _)).mono ?_
        rintro e w2 ⟨rfl, hg2⟩
        have G2 := Lib.hid hg2
        clear hg2
        go_wp2_with fail
        refine (HAw.out _).mono ?_
        rintro e w3 ⟨rfl, hg3⟩
        have G3 := Lib.hid (G2.out.trans hg3)
        clear hg3
        go_wp2
        go_ret
        exact ⟨rfl, G3.out⟩
set_option maxHeartbeats 16000000 in
set_option maxRecDepth 100000 in
theorem loads_l5 (room : Int) (l : List Fl) (T : List Ac) (al ad : Option Addr) (cl cap : Nat) (w : World) (hL : RowAt flf w al l) (hln : l.length ≤ 9223372036854775807) (hsz : ∀ f ∈ l, f.d.size ≤ 9223372036854775807) (hT : Acts w ad T) (hr1 : room ≤ 9223372036854775807) (hcl : al = none → cl = 0) (h1 : ¬ 100 < (l.length : Int)) (h2 : ¬ 300000 < (cntL l : Int)) (h3 : fewB T = true) (h4 : ¬ 30 < (T.length : Int)) (h5 : mayL room l = false) :
    Calls Try.prog 4 #[.int .i64 room, .slice al l.length cl, .slice ad T.length cap] w fun e w' => e = .returned (.bool true) ∧ Gr w w' := by
  have HAw : Hid (∀ w', Calls Try.prog 10 #[] w' fun e w2 => e = .returned (.bool true) ∧ Gr w' w2) := fun w' => awake_any w'
  have HF : Hid (∀ w', Gr w w' → Calls Try.prog 9 #[.slice ad T.length cap] w' fun e w2 => e = .returned (.bool (fewB T)) ∧ Gr w' w2) := fun w' g => few_any T ad cap w' (hT.gr g)
  have HL := Lib.hid hL
  have hlT := hT.len
  rw [h3] at HF
  have ecn : cntL l = sz3 l := by unfold cntL; rw [List.take_of_length_le (by omega)]
  have hsum : used l ≤ 9223372036854775807 := sum_in (by omega) hsz
  clear ecn
  have HN : Hid (∀ w', Gr w w' → Calls Try.prog 15 #[.int .i64 room, .slice al l.length cl] w' fun e w2 => e = .returned (.tuple #[nilP, .int .i64 2]) ∧ Gr w' w2) := fun w' g => by
    refine (load_any room l al cl w' (hL.gr g) hln hsz hr1).mono ?_
    intro e w2 h
    unfold LdR at h
    rw [h5] at h
    exact h
  have HM : Hid (∀ w', Gr w w' → Calls Try.prog 16 #[.int .i64 room, .slice al l.length cl] w' fun e w2 => e = .returned (.tuple #[nilP, .int .i64 2]) ∧ Gr w' w2) := fun w' g => by
    refine (rload_any (X := fun _ => False) room l al cl (fun j hj => hj.elim) (hL.gr g) hcl hsum).mono ?_
    intro e w2 h
    unfold RlR at h
    rw [h5] at h
    exact h
  have HSz := Lib.hid hsz
  clear hL hT hsz
  go_enter Try.func4, Try.ntmps4
  go_wp2
  go_loopw [8, 7] (fun i c wr => ∃ k : Nat, k ≤ l.length ∧ k ≤ 100 ∧ i = .int .i64 (k : Int) ∧ c = .int .i64 (sz3 (l.take k) : Int) ∧ wr = w) (fun i _ _ => 100 - (intOf i).toNat)
  case atStart => exact ⟨0, Nat.zero_le _, by omega, rfl, rfl, rfl⟩
  case round =>
    obtain ⟨k, hk, hk100, rfl, rfl, rfl⟩ := hrel
    by_cases hlt : k < l.length ∧ k < 100
    · obtain ⟨hk1, hk2⟩ := hlt
      obtain ⟨x, off, hade, hxb, c0, c1, c2⟩ := fl_at HL.out k hk1
      have HU := Lib.hid (sz3_take hk1)
      have hub : sz3 (l.take k) ≤ 30000000 := by
        have h5 := sz3_le (l.take k)
        rw [List.length_take] at h5
        have : min k l.length ≤ 100 := by omega
        have := Nat.mul_le_mul_right 300000 this
        omega
      have hds := HSz.out _ (List.getElem_mem hk1)
      have d1 : decide ((k : Int) < (l.length : Int)) = true := decide_eq_true (by omega)
      have d2 : decide ((k : Int) < 100) = true := decide_eq_true (by omega)
      subst hade
      clear c0 c2
      generalize l[k] = f at *
      generalize sz3 (l.take k) = us at *
      obtain ⟨fn, fd, fy⟩ := f
      simp only at *
      go_wp2
      go_roundw
      case rel => exact ⟨k + 1, by omega, by omega, by simp, by (rw [HU.out]; simp; omega), by trivial⟩
      case measure => simp [intOf]; omega
    · have HK : Hid (sz3 (l.take k) = cntL l) := by
        show _ = _
        unfold cntL
        by_cases h9 : l.length ≤ 100
        · rw [List.take_of_length_le (by omega), List.take_of_length_le (by omega)]
        · rw [show k = 100 by omega]
      have dd : decide ((k : Int) < (l.length : Int)) = false ∨ (decide ((k : Int) < (l.length : Int)) = true ∧ decide ((k : Int) < 100) = false) := by
        by_cases h9 : k < l.length
        · exact Or.inr ⟨decide_eq_true (by omega), decide_eq_false (by omega)⟩
        · exact Or.inl (decide_eq_false (by omega))
      rw [HK.out]
      generalize hcn : cntL l = cn at *
      clear HK
      rcases dd with d1 | ⟨d1, d2⟩
      · skip
        go_wp2_with fail
        refine (HF.out _ (Gr.refl _)).mono ?_
        rintro e w2 ⟨rfl, hg2⟩
        have G2 := Lib.hid hg2
        clear hg2
        go_wp2_with fail
        refine (HN.out _ G2.out).mono ?_
        rintro e w3 ⟨rfl, hg3⟩
        have G3 := Lib.hid (G2.out.trans hg3)
        clear hg3
        go_wp2_with fail
        refine (HM.out _ G3.out).mono ?_
        rintro e w4 ⟨rfl, hg4⟩
        have G4 := Lib.hid (G3.out.trans hg4)
        clear hg4 HF HN HM
        go_wp2
        go_loopw [13] (fun i wr => i = .int .i64 0 ∧ wr = w4) (fun _ _ => 0)
        case atStart => exact ⟨rfl, rfl⟩
        case round =>
          obtain ⟨rfl, rfl⟩ := hrel
          by_cases h9 : (0 : Int) < (T.length : Int)
          · have h9b : decide ((0 : Int) < (T.length : Int)) = true := decide_eq_true h9
            have h9c : decide (0 < T.length) = true := decide_eq_true (by omega)
            go_wp2_with fail
            refine (HAw.out _).mono ?_
            rintro e w5 ⟨rfl, hg5⟩
            have G5 := Lib.hid (G4.out.trans hg5)
            clear hg5
            go_wp2
            go_ret
            exact ⟨rfl, G5.out⟩
          · have h9b : T.length = 0 := by omega
            go_wp2_with fail
            refine (HAw.out _).mono ?_
            rintro e w5 ⟨rfl, hg5⟩
            have G5 := Lib.hid (G4.out.trans hg5)
            clear hg5
            go_wp2
            go_ret
            exact ⟨rfl, G5.out⟩
      · have e1 := of_decide_eq_true d1
        have e2 := of_decide_eq_false d2
        omega
set_option maxHeartbeats 16000000 in
set_option maxRecDepth 100000 in
theorem loads_main (room : Int) (l : List Fl) (T : List Ac) (al ad : Option Addr) (cl cap : Nat) (w : World) (hL : RowAt flf w al l) (hln : l.length ≤ 9223372036854775807) (hsz : ∀ f ∈ l, f.d.size ≤ 9223372036854775807) (hT : Acts w ad T) (hr1 : room ≤ 9223372036854775807) (hcl : al = none → cl = 0) (h1 : ¬ 100 < (l.length : Int)) (h2 : ¬ 300000 < (cntL l : Int)) (h3 : fewB T = true) (h4 : ¬ 30 < (T.length : Int)) (h5 : mayL room l = true) :
    Calls Try.prog 4 #[.int .i64 room, .slice al l.length cl, .slice ad T.length cap] w fun e w' => e = .returned (.bool true) ∧ Gr w w' := by
  have HAw : Hid (∀ w', Calls Try.prog 10 #[] w' fun e w2 => e = .returned (.bool true) ∧ Gr w' w2) := fun w' => awake_any w'
  have HF : Hid (∀ w', Gr w w' → Calls Try.prog 9 #[.slice ad T.length cap] w' fun e w2 => e = .returned (.bool (fewB T)) ∧ Gr w' w2) := fun w' g => few_any T ad cap w' (hT.gr g)
  have HL := Lib.hid hL
  have hlT := hT.len
  rw [h3] at HF
  have ecn : cntL l = sz3 l := by unfold cntL; rw [List.take_of_length_le (by omega)]
  have hsum : used l ≤ 9223372036854775807 := sum_in (by omega) hsz
  clear ecn
  have HN : Hid (∀ w', Gr w w' → Calls Try.prog 15 #[.int .i64 room, .slice al l.length cl] w' fun e w2 => ∃ b m, e = .returned (.tuple #[ptr b, .int .i64 0]) ∧ New w' w2 b m (Dk.new room l)) := fun w' g => by
    refine (load_any room l al cl w' (hL.gr g) hln hsz hr1).mono ?_
    intro e w2 h
    unfold LdR at h
    rw [h5] at h
    exact h
  have HM : Hid (∀ w1 w' b m, Gr w w1 → New w1 w' b m (Dk.new room l) → Calls Try.prog 16 #[.int .i64 room, .slice al l.length cl] w' fun e w2 => ∃ r, e = .returned (.tuple #[ptr r, .int .i64 0]) ∧ Pq w1 w2 b m r (Dk.new room l) (Dk.new room l)) := fun w1 w' b m g hn => by
    obtain ⟨A, hA⟩ := hn.at_
    refine (rload_any (X := Xb b m) room l al cl (fun j hj => by rcases hj with rfl | rfl; exact hA.lt; exact hA.fl.lt) (hL.gr (g.trans hn.gr)) hcl hsum).mono ?_
    intro e w2 h
    unfold RlR at h
    rw [h5] at h
    obtain ⟨r, rfl, q1, q2, q3⟩ := h
    exact ⟨r, rfl, hn.up q3, q1, Nat.le_trans hn.gr.size q2⟩
  have HAb : Hid (∀ w' x, Gr w w' → x ∈ T → Ab w' x) := fun w' x g hx => ab_of (hT.gr g) h3 hx
  have HSz := Lib.hid hsz
  have HT := Lib.hid hT
  clear hL hT hsz
  go_enter Try.func4, Try.ntmps4
  go_wp2
  go_loopw [8, 7] (fun i c wr => ∃ k : Nat, k ≤ l.length ∧ k ≤ 100 ∧ i = .int .i64 (k : Int) ∧ c = .int .i64 (sz3 (l.take k) : Int) ∧ wr = w) (fun i _ _ => 100 - (intOf i).toNat)
  case atStart => exact ⟨0, Nat.zero_le _, by omega, rfl, rfl, rfl⟩
  case round =>
    obtain ⟨k, hk, hk100, rfl, rfl, rfl⟩ := hrel
    by_cases hlt : k < l.length ∧ k < 100
    · obtain ⟨hk1, hk2⟩ := hlt
      obtain ⟨x, off, hade, hxb, c0, c1, c2⟩ := fl_at HL.out k hk1
      have HU := Lib.hid (sz3_take hk1)
      have hub : sz3 (l.take k) ≤ 30000000 := by
        have h5 := sz3_le (l.take k)
        rw [List.length_take] at h5
        have : min k l.length ≤ 100 := by omega
        have := Nat.mul_le_mul_right 300000 this
        omega
      have hds := HSz.out _ (List.getElem_mem hk1)
      have d1 : decide ((k : Int) < (l.length : Int)) = true := decide_eq_true (by omega)
      have d2 : decide ((k : Int) < 100) = true := decide_eq_true (by omega)
      subst hade
      clear c0 c2
      generalize l[k] = f at *
      generalize sz3 (l.take k) = us at *
      obtain ⟨fn, fd, fy⟩ := f
      simp only at *
      go_wp2
      go_roundw
      case rel => exact ⟨k + 1, by omega, by omega, by simp, by (rw [HU.out]; simp; omega), by trivial⟩
      case measure => simp [intOf]; omega
    · have HK : Hid (sz3 (l.take k) = cntL l) := by
        show _ = _
        unfold cntL
        by_cases h9 : l.length ≤ 100
        · rw [List.take_of_length_le (by omega), List.take_of_length_le (by omega)]
        · rw [show k = 100 by omega]
      have dd : decide ((k : Int) < (l.length : Int)) = false ∨ (decide ((k : Int) < (l.length : Int)) = true ∧ decide ((k : Int) < 100) = false) := by
        by_cases h9 : k < l.length
        · exact Or.inr ⟨decide_eq_true (by omega), decide_eq_false (by omega)⟩
        · exact Or.inl (decide_eq_false (by omega))
      rw [HK.out]
      generalize hcn : cntL l = cn at *
      clear HK
      rcases dd with d1 | ⟨d1, d2⟩
      · go_wp2_with fail
        refine (HF.out _ (Gr.refl _)).mono ?_
        rintro e w1 ⟨rfl, hg1⟩
        have G1 := Lib.hid hg1
        clear hg1
        go_wp2_with fail
        refine (HN.out _ G1.out).mono ?_
        rintro e w2 ⟨b, m, rfl, hn⟩
        have N2 := Lib.hid hn
        clear hn
        go_wp2_with fail
        refine (HM.out _ _ _ _ G1.out N2.out).mono ?_
        rintro e w3 ⟨r, rfl, hp⟩
        have P3 := Lib.hid hp
        clear hp N2 HF HN HM
        go_wp2
        go_loopw [13] (fun i wr => ∃ k : Nat, k ≤ T.length ∧ i = .int .i64 (k : Int) ∧ Pq w1 wr b m r (plL (Dk.new room l) (T.take k)) (plL (Dk.new room l) (T.take k))) (fun i _ => T.length - (intOf i).toNat)
        case atStart => exact ⟨0, Nat.zero_le _, rfl, P3.out⟩
        case round =>
          obtain ⟨k, hk, rfl, hp⟩ := hrel
          by_cases hlt : k < T.length
          · have hgr := G1.out.trans hp.nw.gr
            obtain ⟨x, off, hade, hxb, c0, c1, c2, c3, c4⟩ := ac_at HT.out.row k hlt
            have c0 := hgr.keep c0
            have c1 := hgr.keep c1
            have c2 := hgr.keep c2
            have c3 := hgr.keep c3
            have c4 := hgr.keep c4
            have HDo := Lib.hid (does_any hp T[k] (HAb.out w1 T[k] G1.out (List.getElem_mem hlt)))
            have HS := Lib.hid (plL_succ (Dk.new room l) T k hlt)
            obtain ⟨s', es⟩ : ∃ s', s' = plL (Dk.new room l) (T.take (k + 1)) := ⟨_, rfl⟩
            rw [← es] at HS
            rw [← HS.out] at HDo
            have HE := Lib.hid es
            have hltb : decide ((k : Int) < (T.length : Int)) = true := decide_eq_true (by omega)
            subst hade
            clear es hp hgr P3 HS
            generalize T[k] = z at *
            obtain ⟨zk, zn, zz, zd, za, zc, zK⟩ := z
            simp only at *
            go_wp2_with fail
            refine HDo.out.mono ?_
            rintro e w4 ⟨rfl, hp4⟩
            have P4 := Lib.hid hp4
            clear hp4 HDo
            go_wp2_with fail
            refine (same_any P4.out).mono ?_
            rintro e w5 ⟨rfl, hg5⟩
            have P5 := Lib.hid (P4.out.up hg5)
            clear hg5 P4
            go_wp2
            go_roundw
            case rel => exact ⟨k + 1, by omega, by simp, by rw [← HE.out]; exact P5.out⟩
            case measure => simp [intOf]; omega
          · obtain rfl : k = T.length := by omega
            have G4 := Lib.hid (G1.out.trans hp.nw.gr)
            have P4 := Lib.hid hp
            clear hp
            go_wp2_with fail
            refine (same_any P4.out).mono ?_
            rintro e w4 ⟨rfl, hg4⟩
            have G5 := Lib.hid (G4.out.trans hg4)
            clear hg4
            go_wp2_with fail
            refine (HAw.out _).mono ?_
            rintro e w5 ⟨rfl, hg5⟩
            have G6 := Lib.hid (G5.out.trans hg5)
            clear hg5
            go_wp2
            go_ret
            exact ⟨rfl, G6.out⟩
      · have e1 := of_decide_eq_true d1
        have e2 := of_decide_eq_false d2
        omega
theorem diskLoads_walk (room : Int) (l : List Fl) (T : List Ac) (al ad : Option Addr) (cl cap : Nat) (w : World) (hL : RowAt flf w al l) (hln : l.length ≤ 9223372036854775807) (hsz : ∀ f ∈ l, f.d.size ≤ 9223372036854775807) (hT : Acts w ad T) (hr1 : room ≤ 9223372036854775807) (hcl : al = none → cl = 0) :
    Calls Try.prog 4 #[.int .i64 room, .slice al l.length cl, .slice ad T.length cap] w fun e w' => e = .returned (.bool true) ∧ Gr w w' := by
  by_cases h1 : 100 < (l.length : Int)
  · exact loads_l1 room l T al ad cl cap w hL hln hsz hT h1
  · by_cases h2 : 300000 < (cntL l : Int)
    · exact loads_l2 room l T al ad cl cap w hL hln hsz hT h1 h2
    · cases h3 : fewB T with
      | false => exact loads_l3 room l T al ad cl cap w hL hln hsz hT h1 h2 h3
      | true =>
        by_cases h4 : 30 < (T.length : Int)
        · exact loads_l4 room l T al ad cl cap w hL hln hsz hT h1 h2 h3 h4
        · cases h5 : mayL room l with
          | false => exact loads_l5 room l T al ad cl cap w hL hln hsz hT hr1 hcl h1 h2 h3 h4 h5
          | true => exact loads_main room l T al ad cl cap w hL hln hsz hT hr1 hcl h1 h2 h3 h4 h5

set_option maxRecDepth 100000 in
theorem diskLoads_lifted (os : Os) (started : os.Started) (H : Type) (enc : TypeId × Value → H) :
    ReturnsInHanded {} Try.checked os 4 .any (Rows.diskLoadsSpec.pre6 enc Try.prog Try.f4 Rows.diskLoadsRow.domain false) (Rows.diskLoadsSpec.post enc Try.prog Try.f4 false true false false) := by
  refine returnsInHanded_of_change (C := Try.checked) own2 started (by kernel_rfl) Try.func4
    (ChangeSpec.witness6 (enc := enc) (C := Try.checked) false ⟨#[], #[.int .i64 0, .slice none 0 0, .slice none 0 0], []⟩ 8 (by kernel_rfl) (by kernel_rfl) (by kernel_rfl) (by kernel_rfl)) ?_
  intro W base args ds gs before hval0 hW hcnd _
  have hval : ∀ (j : Nat) t v, Try.f4.params[j]? = some t → args[j]? = some v → Value.okWide Try.prog W .any base t v := hval0
  have hW' := hW
  obtain ⟨p, q, hA0, hV, rfl, hfz, hnd⟩ := hW
  have hA : DataW.TrodAll enc Try.prog W 0 (fun _ => true) true Try.f4.params.toList args.toList ds p := hA0
  rw [Try.params4] at hA hval
  obtain ⟨v0, v1, v2, d0, d1, d2, p0, p1, p2, rfl, rfl, rfl, q0, q1, q2⟩ := trodAll_three hA
  obtain ⟨rfl, rfl⟩ := trodVars_none hV
  have k1 := q1
  have lt1 : ∀ x ∈ p1, x.block < W.heap.size := by obtain ⟨m, hm⟩ := k1; exact DataW.trod_lt m _ _ _ hm
  have k2 := q2
  have lt2 : ∀ x ∈ p2, x.block < W.heap.size := by obtain ⟨m, hm⟩ := k2; exact DataW.trod_lt m _ _ _ hm
  obtain ⟨a0, rfl, rfl, rfl, wa0⟩ := open_int Try.underlying3 (hval 0 3 v0 rfl rfl) q0
  have rg0 := rng_i64 wa0
  obtain ⟨ad1, cap1, l1, rfl, hL1, hl1, hr1, hc1⟩ := open_files (hval 1 38 v1 rfl rfl) q1
  obtain ⟨ad2, cap2, T2, rfl, hT2⟩ := open_kacts (hval 2 22 v2 rfl rfl) q2
  clear hA0 hval0
  refine (diskLoads_walk a0 l1 T2 ad1 ad2 cap1 cap2 W hL1 hl1 (fun f hf => (hr1 f hf).2.1) hT2 rg0.2 hc1).mono fun e W' ⟨he, hg⟩ => ?_
  subst he
  exact ⟨_, rfl, _, _, _, [], _, [], hW', trodAll_mk1 (shut_bool Try.underlying4 _), trodAll_mk3 (shut_int Try.underlying3 wa0) (Below.trod laidOut2 (by kernel_rfl) (of_decide_eq_true (by kernel_rfl)) k1 hg.below lt1) (Below.trod laidOut2 (by kernel_rfl) (of_decide_eq_true (by kernel_rfl)) k2 hg.below lt2), rfl, hg.below.frame _, fun h => by cases h⟩

theorem diskLoads_holds : Rows.DiskLoadsSaid :=
  OpenClaim.holds_of_wide 4 Try.f4 rfl rfl rfl rfl rfl rfl rfl ⟨rfl, rfl, rfl, rfl, rfl⟩ rfl rfl rfl rfl rfl (by kernel_rfl) Try.func4 (by kernel_rfl)
    (of_decide_eq_true (by kernel_rfl)) (by unfold Func.isWrapper; first | (rw [if_pos (by decide +kernel)]; kernel_rfl) | (rw [if_neg (by decide +kernel)]; exact ⟨rfl, rfl⟩))
    (fun os started H enc _ => diskLoads_lifted os started H enc)
end Go.Proofs.Ytpnlebegenkdkaa
