/- Parts of these proofs, laid together. -/
import Derived.Test.YthaadiclopoamaaGreatDoorGE
import Derived.Test.YthaadiclopoamaaGreatDoorGBB
import Derived.Test.YthaadiclopoamaaGreatDoorGBC
import Derived.Test.YthaadiclopoamaaGreatDoorGO
import Derived.Test.YthaadiclopoamaaGreatDoorGN
import Derived.Test.YthaadiclopoamaaGreatDoorGB
/- A region that draws its order: from some operation on more is held. -/
set_option maxRecDepth 100000
set_option maxHeartbeats 8000000
namespace Go.Proofs.YthaadiclopoamaaGreatDoor
theorem wpAnyH_more {P : Program} {md : Region.Mode} {ops : Array Oper} {Q : Exit -> Act -> World -> Prop} {S S2 : World -> Prop} (h : ∀ w, S2 w -> S w) : ∀ (fuel : Nat) (listed : Array Bool) (a : Act) (w : World), wpAnyH P md ops Q S2 fuel listed a w -> wpAnyH P md ops Q S fuel listed a w
 | 0, _, _, _, k => k
 | fuel + 1, _, _, _, k => ⟨k.1, fun i hi => wpOp_mono (fun a' w' h' => ⟨h w' h'.1, wpAnyH_more h fuel _ a' w' h'.2⟩) (k.2 i hi)⟩
end Go.Proofs.YthaadiclopoamaaGreatDoor
/- The document's Show of definitions. -/
set_option maxRecDepth 100000
set_option maxHeartbeats 8000000
namespace Go.Proofs.YthaadiclopoamaaGreatDoor
open Go.RowKit
open Df (Stp ownB askB stpB defB chE wk)

theorem rDigit_any (n : Nat) (w : World) (h : n < 10) : Calls Tryz.prog 26 #[.int .i64 n] w fun e w' => e = .returned (.string ⟨(Lib.decDigits n).toArray⟩) /\ w' = w := by
 have HD : Hid (Lib.decDigits n = [UInt8.ofNat (48 + n)]) := dgs_one n h
 rcases (by omega : n = 0 ∨ n = 1 ∨ n = 2 ∨ n = 3 ∨ n = 4 ∨ n = 5 ∨ n = 6 ∨ n = 7 ∨ n = 8 ∨ n = 9) with rfl | rfl | rfl | rfl | rfl | rfl | rfl | rfl | rfl | rfl
 all_goals
  go_enter Tryz.func26, Tryz.ntmps26
  go_wp2
  go_ret
  exact ⟨by rw [HD.out]; rfl, rfl⟩

theorem rDigits_any (n : Nat) (w : World) (h : n <= 1000000000000000000) : Calls Tryz.prog 26 #[.int .i64 n] w fun e w' => e = .returned (.string ⟨(Lib.decDigits n).toArray⟩) /\ w' = w := by
 induction n using Nat.strongRecOn with
 | ind n ih =>
  by_cases h9 : n < 10
  ·exact rDigit_any n w h9
  ·have H1 : Hid (Calls Tryz.prog 26 #[.int .i64 ((n / 10 : Nat) : Int)] w fun e w' => e = .returned (.string ⟨(Lib.decDigits (n / 10)).toArray⟩) /\ w' = w) := ih (n / 10) (by omega) (by omega)
   have H2 : Hid (Calls Tryz.prog 26 #[.int .i64 ((n % 10 : Nat) : Int)] w fun e w' => e = .returned (.string ⟨(Lib.decDigits (n % 10)).toArray⟩) /\ w' = w) := rDigit_any (n % 10) w (by omega)
   have hl := digs_len (n / 10) 19 (by omega)
   have hl2 := digs_len (n % 10) 0 (by omega)
   have ha := add_lists (Lib.decDigits (n / 10)) (Lib.decDigits (n % 10)) (by omega)
   have HD : Hid (Lib.decDigits n = Lib.decDigits (n / 10) ++ Lib.decDigits (n % 10)) := dgs_snoc n h9
   have e1 : ((n / 10 : Nat) : Int) = (n : Int) / 10 := by omega
   have e2 : ((n % 10 : Nat) : Int) = (n : Int) % 10 := by omega
   rw [e1] at H1
   rw [e2] at H2
   have h9' : ¬ ((n : Int) < 10) := by omega
   generalize Lib.decDigits (n / 10) ++ Lib.decDigits (n % 10) = t2 at *
   generalize Lib.decDigits (n / 10) = t0 at *
   generalize Lib.decDigits (n % 10) = t1 at *
   clear ih hl hl2 e1 e2
   go_enter Tryz.func26, Tryz.ntmps26
   go_wp2_with fail
   refine H1.out.mono ?_
   rintro e w1 ⟨rfl, hw1⟩; obtain rfl := hw1.symm
   go_wp2_with fail
   refine H2.out.mono ?_
   rintro e w1 ⟨rfl, hw1⟩; obtain rfl := hw1.symm
   go_wp2
   go_ret
   exact ⟨by rw [HD.out]; rfl, rfl⟩
theorem refDg_any (n : Int) (w : World) (h0 : 0 <= n) (h1 : n <= 1000000000000000000) : Calls Tryz.prog 26 #[.int .i64 n] w fun e w' => e = .returned (.string (dg n)) /\ w' = w := by
 have := rDigits_any n.toNat w (by omega)
 rw [show ((n.toNat : Nat) : Int) = n by omega] at this
 exact this
theorem amount_any (n : Int) (w : World) (h0 : 0 <= n) (h1 : n <= 1000000000000000000) : Calls Tryz.prog 68 #[.int .i64 n] w fun e w' => e = .returned (.string (dg n)) /\ w' = w := by
 have H1 : Hid (Calls Tryz.prog 26 #[.int .i64 n] w fun e w' => e = .returned (.string (dg n)) /\ w' = w) := refDg_any n w h0 h1
 generalize dg n = D at *
 clear h0 h1
 go_enter Tryz.func68, Tryz.ntmps68
 go_wp2_with fail
 refine H1.out.mono ?_
 rintro e w1 ⟨rfl, hw1⟩; obtain rfl := hw1.symm
 go_wp2
 go_ret
 exact ⟨rfl, rfl⟩
theorem refWords_any (w : World) : Calls Tryz.prog 67 #[] w fun e w' => e = .returned (.slice (some ⟨w.heap.size, 0, none⟩) 5 5) /\ StrsIn w' w.heap.size [⟨#[]⟩, Df.wDebit, Df.wCredit, Df.wReserve, Df.wRelease] /\ w.heap.size < w'.heap.size /\ Gr w w' := by
 have HS := Lib.hid (fun t => strs_new w ⟨#[]⟩ Df.wDebit Df.wCredit Df.wReserve Df.wRelease t)
 go_enter Tryz.func67, Tryz.ntmps67
 go_wp2
 go_ret
 exact ⟨rfl, HS.out _, by simp, (by repeat(first|exact Gr.r _|refine Gr.a ?_|refine Gr.d ?_|refine Gr.t ?_ (by assumption)))⟩
theorem words_at {w : World} {g : Nat} (h : StrsIn w g [⟨#[]⟩, Df.wDebit, Df.wCredit, Df.wReserve, Df.wRelease]) (k : Nat) (h1 : 1 <= k) (h4 : k <= 4) : w.cell? ⟨g, k, none⟩ = some (.string (wk (k : Int))) := by
 rcases (by omega : k = 1 ∨ k = 2 ∨ k = 3 ∨ k = 4) with rfl | rfl | rfl | rfl
 ·exact h 1 _ rfl
 ·exact h 2 _ rfl
 ·exact h 3 _ rfl
 ·exact h 4 _ rfl
theorem holdW2 {a c b : World} {g : Nat} {v0 v1 v2 v3 v4 v5 v6 : Value} {p : Addr} {v : Value} (h : AccAt a g v0 v1 v2 v3 v4 v5 v6) (k : Gr a c) (hp : c.cell? p = some v) (k2 : Gr c b) : (Gr a b /\ b.cell? ⟨g, 0, none⟩ = some v0 /\ b.cell? ⟨g, 1, none⟩ = some v1 /\ b.cell? ⟨g, 2, none⟩ = some v2 /\ b.cell? ⟨g, 3, none⟩ = some v3 /\ b.cell? ⟨g, 4, none⟩ = some v4 /\ b.cell? ⟨g, 5, none⟩ = some v5 /\ b.cell? ⟨g, 6, none⟩ = some v6) /\ Gr c b /\ b.cell? p = some v :=
 ⟨holdW h (k.trans k2), k2, k2.keep hp⟩
end Go.Proofs.YthaadiclopoamaaGreatDoor
/- The document's Text lays Pk.text. -/
set_option maxRecDepth 100000
set_option maxHeartbeats 8000000
namespace Go.Proofs.YthaadiclopoamaaGreatDoor
open Go.RowKit

theorem refText_any (s : ByteArray) (w : World) (hs : s.size <= 140737488355328) :
  Calls Tryz.prog 47 #[.string s] w fun e w' => e = .returned (.string ⟨(Pk.text s.data.toList).toArray⟩) /\ Gr w w' := by
 have hsz : s.data.toList.length = s.size := by simp
 have hl := Pk.num_len s.size
 have hadd := add_lists (Pk.num s.size) s.data.toList (by omega)
 rw [mk_data] at hadd
 have he : Pk.text s.data.toList = Pk.num s.size ++ s.data.toList := by rw [Pk.text, hsz]
 rw [he]
 have HN : Hid (∀ w : World, Calls Tryz.prog 66 #[.int .u64 s.size] w fun e w' => e = .returned (.string ⟨(Pk.num s.size).toArray⟩) /\ Gr w w') := fun w => refNumber_any 9 s.size w (by omega) (by omega) (by omega)
 generalize Pk.num s.size = t at *
 clear he hsz hl
 go_enter Tryz.func47, Tryz.ntmps47
 go_wp2_with fail
 refine (HN.out _).mono ?_
 rintro e w1 ⟨rfl, hg1⟩
 go_wp2
 go_ret
 exact ⟨rfl, (by repeat(first|exact Gr.r _|refine Gr.a ?_|refine Gr.d ?_|refine Gr.t ?_ (by assumption)))⟩
end Go.Proofs.YthaadiclopoamaaGreatDoor
