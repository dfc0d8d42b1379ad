/- pack.TakeText, the document's TakeSigned and TakeText: what is taken. -/
import Derived.Test.YtnkbnjkdlnafpaaRefTake
import Derived.Test.YtnkbnjkdlnafpaaTakeS
import Derived.Test.YtnkbnjkdlnafpaaMath4
import Derived.Test.YtnkbnjkdlnafpaaShelf
namespace Go.Proofs.Ytnkbnjkdlnafpaa
open Go.RowKit

theorem ext_mk (s : ByteArray) (a n : Nat) : s.extract a (a + n) = ⟨((s.data.toList.drop a).take n).toArray⟩ := by
  have h := ext_data s a n
  rw [← h]

set_option maxHeartbeats 400000 in
theorem clone_any (s : ByteArray) (w : World) (hs : s.size ≤ 140737488355328) : Calls Try.prog 32 #[.string s] w fun e w' => e = .returned (.string s) ∧ Gr w w' := by
  have HC : Hid (∀ w : World, Calls Try.prog 35 #[.string s] w fun e w' => e = .returned (.string s) ∧ Below w.heap.size w w') := fun w => Try.stringslite_Clone s w (by omega)
  go_enter Try.func32, Try.ntmps32
  go_wp2_with fail
  refine (HC.out _).mono ?_
  rintro e w1 ⟨rfl, hb⟩
  go_wp2
  go_ret
  exact ⟨rfl, ⟨hb⟩⟩

set_option maxHeartbeats 400000 in
set_option maxRecDepth 100000 in
theorem refTakeSigned_any (s : ByteArray) (p : Int) (w : World) (hs : s.size ≤ 140737488355328) :
    Calls Try.prog 22 #[.string s, .int .i64 p] w fun e w' => e = .returned (.tuple #[.int .i64 (Pk.unsg (Pk.takeNum s.data.toList p).1), .int .i64 (Pk.takeNum s.data.toList p).2.1, .int .i64 (Pk.takeNum s.data.toList p).2.2]) ∧ Gr w w' := by
  have hsp := Pk.takeNum_spec s.data.toList p
  have HC : Hid (∀ w : World, Calls Try.prog 20 #[.string s, .int .i64 p] w fun e w' => e = .returned (.tuple #[.int .u64 (Pk.takeNum s.data.toList p).1, .int .i64 (Pk.takeNum s.data.toList p).2.1, .int .i64 (Pk.takeNum s.data.toList p).2.2]) ∧ Gr w w') := fun w => refTakeNumber_any s p w hs
  generalize Pk.takeNum s.data.toList p = R at *
  obtain ⟨n, q, e⟩ := R
  simp only at *
  rcases hsp with ⟨rfl, h1, h2, h3, h4⟩ | h | h | h
  · by_cases he : n % 2 = 0
    · have hu : Pk.unsg n = ((n / 2 : Nat) : Int) := by simp [Pk.unsg, he]
      have hz : ((n : Int) % 2 == 0) = true := by simp; omega
      rw [hu]
      clear hu h2 h3 h4
      go_enter Try.func22, Try.ntmps22
      go_wp2_with fail
      refine (HC.out _).mono ?_
      rintro e w1 ⟨rfl, hg1⟩
      go_wp2
      go_ret3
      exact ⟨by simp, (by repeat (first | exact Gr.refl _ | refine Gr.alloc ?_ | refine Gr.drew ?_ | refine Gr.trans ?_ (by assumption)))⟩
    · have hu : Pk.unsg n = -((n / 2 : Nat) : Int) - 1 := by simp [Pk.unsg, he]
      have hz : ((n : Int) % 2 == 0) = false := by simp; omega
      rw [hu]
      clear hu h2 h3 h4
      go_enter Try.func22, Try.ntmps22
      go_wp2_with fail
      refine (HC.out _).mono ?_
      rintro e w1 ⟨rfl, hg1⟩
      go_wp2
      go_ret3
      exact ⟨by simp, (by repeat (first | exact Gr.refl _ | refine Gr.alloc ?_ | refine Gr.drew ?_ | refine Gr.trans ?_ (by assumption)))⟩
  all_goals
    simp only [Prod.mk.injEq] at h
    obtain ⟨rfl, rfl, rfl⟩ := h
    have hu : Pk.unsg 0 = 0 := rfl
    rw [hu]
    clear hu
    go_enter Try.func22, Try.ntmps22
    go_wp2_with fail
    refine (HC.out _).mono ?_
    rintro e w1 ⟨rfl, hg1⟩
    go_wp2
    go_ret3
    exact ⟨by simp, (by repeat (first | exact Gr.refl _ | refine Gr.alloc ?_ | refine Gr.drew ?_ | refine Gr.trans ?_ (by assumption)))⟩

set_option maxHeartbeats 400000 in
set_option maxRecDepth 100000 in
theorem takeText_any (s : ByteArray) (p : Int) (w : World) (hs : s.size ≤ 140737488355328) :
    Calls Try.prog 23 #[.string s, .int .i64 p] w fun e w' => e = .returned (.tuple #[.string ⟨(Pk.takeText s.data.toList p).1.toArray⟩, .int .i64 (Pk.takeText s.data.toList p).2.1, .int .i64 (Pk.takeText s.data.toList p).2.2]) ∧ Gr w w' := by
  have hsp := Pk.takeNum_spec s.data.toList p
  have hsz : s.data.toList.length = s.size := by simp
  have hdef : Pk.takeText s.data.toList p = _ := rfl
  conv at hdef => rhs; unfold Pk.takeText
  have HC : Hid (∀ w : World, Calls Try.prog 19 #[.string s, .int .i64 p] w fun e w' => e = .returned (.tuple #[.int .u64 (Pk.takeNum s.data.toList p).1, .int .i64 (Pk.takeNum s.data.toList p).2.1, .int .i64 (Pk.takeNum s.data.toList p).2.2]) ∧ w' = w) := fun w => takeNumber_any s p w hs
  generalize Pk.takeNum s.data.toList p = R at *
  generalize Pk.takeText s.data.toList p = T at *
  obtain ⟨n, q, e⟩ := R
  simp only at *
  rw [hsz] at hsp hdef
  rcases hsp with ⟨rfl, h1, h2, h3, h4⟩ | h | h | h
  · rw [if_neg (by simp)] at hdef
    by_cases hbig : s.size - q < n
    · rw [if_pos hbig] at hdef
      subst hdef
      have hbi : (s.size : Int) - q < n := by omega
      clear hsz hbig
      go_enter Try.func23, Try.ntmps23
      go_wp2_with fail
      refine (HC.out _).mono ?_
      rintro e w1 ⟨rfl, rfl⟩
      go_wp2
      go_ret3
      exact ⟨by simp, (by repeat (first | exact Gr.refl _ | refine Gr.alloc ?_ | refine Gr.drew ?_ | refine Gr.trans ?_ (by assumption)))⟩
    · rw [if_neg hbig] at hdef
      subst hdef
      have hbi : ¬ (s.size : Int) - q < n := by omega
      have HX : Hid (s.extract q (q + n) = ⟨((s.data.toList.drop q).take n).toArray⟩) := ext_mk s q n
      have HK : Hid (∀ w : World, Calls Try.prog 32 #[.string (s.extract q (q + n))] w fun e w' => e = .returned (.string (s.extract q (q + n))) ∧ Gr w w') := fun w => clone_any _ w (by
        have : (s.extract q (q + n)).size ≤ s.size := by simp; omega
        omega)
      clear hsz hbig
      go_enter Try.func23, Try.ntmps23
      go_wp2_with fail
      refine (HC.out _).mono ?_
      rintro e w1 ⟨rfl, rfl⟩
      go_wp2_with fail
      refine (HK.out _).mono ?_
      rintro e w2 ⟨rfl, hg2⟩
      go_wp2
      go_ret3
      refine ⟨?_, (by repeat (first | exact Gr.refl _ | refine Gr.alloc ?_ | refine Gr.drew ?_ | refine Gr.trans ?_ (by assumption)))⟩
      rw [← HX.out]
      simp
  all_goals
    simp only [Prod.mk.injEq] at h
    obtain ⟨rfl, rfl, rfl⟩ := h
    rw [if_pos (by simp)] at hdef
    subst hdef
    go_enter Try.func23, Try.ntmps23
    go_wp2_with fail
    refine (HC.out _).mono ?_
    rintro e w1 ⟨rfl, rfl⟩
    go_wp2
    go_ret3
    exact ⟨by simp, (by repeat (first | exact Gr.refl _ | refine Gr.alloc ?_ | refine Gr.drew ?_ | refine Gr.trans ?_ (by assumption)))⟩
set_option maxHeartbeats 400000 in
set_option maxRecDepth 100000 in
theorem refTakeText_any (s : ByteArray) (p : Int) (w : World) (hs : s.size ≤ 140737488355328) :
    Calls Try.prog 24 #[.string s, .int .i64 p] w fun e w' => e = .returned (.tuple #[.string ⟨(Pk.takeText s.data.toList p).1.toArray⟩, .int .i64 (Pk.takeText s.data.toList p).2.1, .int .i64 (Pk.takeText s.data.toList p).2.2]) ∧ Gr w w' := by
  have hsp := Pk.takeNum_spec s.data.toList p
  have hsz : s.data.toList.length = s.size := by simp
  have hdef : Pk.takeText s.data.toList p = _ := rfl
  conv at hdef => rhs; unfold Pk.takeText
  have HC : Hid (∀ w : World, Calls Try.prog 20 #[.string s, .int .i64 p] w fun e w' => e = .returned (.tuple #[.int .u64 (Pk.takeNum s.data.toList p).1, .int .i64 (Pk.takeNum s.data.toList p).2.1, .int .i64 (Pk.takeNum s.data.toList p).2.2]) ∧ Gr w w') := fun w => refTakeNumber_any s p w hs
  generalize Pk.takeNum s.data.toList p = R at *
  generalize Pk.takeText s.data.toList p = T at *
  obtain ⟨n, q, e⟩ := R
  simp only at *
  rw [hsz] at hsp hdef
  rcases hsp with ⟨rfl, h1, h2, h3, h4⟩ | h | h | h
  · rw [if_neg (by simp)] at hdef
    by_cases hbig : s.size - q < n
    · rw [if_pos hbig] at hdef
      subst hdef
      have hbi : (s.size : Int) - q < n := by omega
      clear hsz hbig
      go_enter Try.func24, Try.ntmps24
      go_wp2_with fail
      refine (HC.out _).mono ?_
      rintro e w1 ⟨rfl, hg1⟩
      go_wp2
      go_ret3
      exact ⟨by simp, (by repeat (first | exact Gr.refl _ | refine Gr.alloc ?_ | refine Gr.drew ?_ | refine Gr.trans ?_ (by assumption)))⟩
    · rw [if_neg hbig] at hdef
      subst hdef
      have hbi : ¬ (s.size : Int) - q < n := by omega
      have HX : Hid (s.extract q (q + n) = ⟨((s.data.toList.drop q).take n).toArray⟩) := ext_mk s q n
      clear hsz hbig
      go_enter Try.func24, Try.ntmps24
      go_wp2_with fail
      refine (HC.out _).mono ?_
      rintro e w1 ⟨rfl, hg1⟩
      go_wp2
      go_ret3
      refine ⟨?_, (by repeat (first | exact Gr.refl _ | refine Gr.alloc ?_ | refine Gr.drew ?_ | refine Gr.trans ?_ (by assumption)))⟩
      rw [← HX.out]
      simp
  all_goals
    simp only [Prod.mk.injEq] at h
    obtain ⟨rfl, rfl, rfl⟩ := h
    rw [if_pos (by simp)] at hdef
    subst hdef
    go_enter Try.func24, Try.ntmps24
    go_wp2_with fail
    refine (HC.out _).mono ?_
    rintro e w1 ⟨rfl, hg1⟩
    go_wp2
    go_ret3
    exact ⟨by simp, (by repeat (first | exact Gr.refl _ | refine Gr.alloc ?_ | refine Gr.drew ?_ | refine Gr.trans ?_ (by assumption)))⟩
end Go.Proofs.Ytnkbnjkdlnafpaa
