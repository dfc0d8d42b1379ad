
/- Plain mathematics of disks, the third part: what a call leaves is a disk that may be; what Append changes. -/
import Derived.Test.YtpnlebegenkdkaaDkO
namespace Go.Proofs.Ytpnlebegenkdkaa
open Dk (Fl Fo St Ok Up zf used)

theorem Gr.drewN {a b : World} (h : Gr a b) (n : Nat) : Gr a (b.drewN n) := by
  induction n with
  | zero => exact h
  | succ n ih => exact ih.drew
theorem pl_ok {s : St} {x : Ac} (h : Ok s) (hx : x.z ≤ 9223372036854775807) : Ok (plS s x) := by
  unfold plS
  split
  · exact h.app _ _
  · split
    · exact h.stp _ _ _
    · split
      · exact h.stp _ _ _
      · split
        · exact h.stp _ _ _
        · split
          · exact h.arm hx _
          · split
            · exact h.cra _
            · exact h.boo
theorem room_cnt (s : St) : (Dk.cntS s).room = s.room := by
  unfold Dk.cntS
  split
  · rfl
  · split <;> rfl
theorem room_pl (s : St) (x : Ac) : (plS s x).room = s.room := by
  unfold plS Dk.appS Dk.stpS Dk.armS Dk.craS Dk.booS
  split
  · repeat' split
    all_goals first | rfl | (rw [room_cnt])
  · split
    · repeat' split
      all_goals first | rfl | (unfold Dk.chS; split <;> simp only [room_cnt])
    · split
      · repeat' split
        all_goals first | rfl | (unfold Dk.chS; split <;> simp only [room_cnt])
      · split
        · repeat' split
          all_goals first | rfl | (unfold Dk.chS; split <;> simp only [room_cnt])
        · repeat' split
          all_goals rfl
theorem room_plL (s : St) (T : List Ac) : (plL s T).room = s.room := by
  unfold plL
  induction T generalizing s with
  | nil => rfl
  | cons x t ih => rw [List.foldl_cons, ih, room_pl]
/- Append: what is used behind it -/
theorem app_room {s : St} (h : Ok s) {n : Int} (hn : ¬ (n < 0 ∨ 1000000 < n)) (d : ByteArray) :
    (Dk.appE s n d = 150 ∧ (Dk.appS s n d).dead = true) ∨ (Dk.appE s n d = 151 ∧ used (Dk.appS s n d).L = used s.L) ∨ (Dk.appE s n d = 0 ∧ used (Dk.appS s n d).L = used s.L + d.size) := by
  cases hd : s.dead with
  | true => rw [(app_dead hd).1, (app_dead hd).2]; exact Or.inl ⟨rfl, hd⟩
  | false =>
    by_cases h2 : (Dk.has s.L n = false ∧ 8 ≤ s.L.length) ∨ s.room < (used s.L : Int) + d.size
    · rw [(app_full hd hn h2).1, (app_full hd hn h2).2]; exact Or.inr (Or.inl ⟨rfl, rfl⟩)
    · by_cases h3 : d.size = 0
      · rw [(app_none hd hn h2 h3).1, (app_none hd hn h2 h3).2]; exact Or.inr (Or.inr ⟨rfl, by omega⟩)
      · rw [(app_go hd hn h2 h3).1, (app_go hd hn h2 h3).2]
        unfold Dk.cntE Dk.cntS
        have hu : used (Dk.ins (Dk.ext s.L n d) s.L) = used s.L + d.size := by
          have h5 := Dk.used_ins (Dk.ext s.L n d) s.L h.up
          have h6 : (Dk.ext s.L n d).d.size = (Dk.get s.L n).d.size + d.size := by simp [Dk.ext]
          rw [show (Dk.ext s.L n d).n = n from rfl, h6] at h5
          cases e : Dk.has s.L n with
          | true => rw [e] at h5; simp at h5; omega
          | false => rw [e] at h5; simp [Dk.get_not e, show (⟨#[]⟩ : ByteArray).size = 0 from rfl] at h5; omega
        by_cases c1 : s.left = 0
        · rw [if_pos c1, if_pos c1]; exact Or.inr (Or.inr ⟨rfl, hu⟩)
        · rw [if_neg c1, if_neg c1]
          by_cases c2 : 0 < s.left - 1
          · rw [if_pos c2, if_pos c2]; exact Or.inr (Or.inr ⟨rfl, hu⟩)
          · rw [if_neg c2, if_neg c2]; exact Or.inl ⟨rfl, rfl⟩
end Go.Proofs.Ytpnlebegenkdkaa
