/- What the library's tables and sentinels are while the laws run; Itoa, Atoi, Cut by the library's contracts. -/
import Derived.Test.YtmidlcipbpchgaaDoorIdA
import Derived.Test.YtmidlcipbpchgaaDoorShelf
import Derived.BigRegion
import Derived.WalkSmall
namespace Go.Proofs.YtmidlcipbpchgaaDoor
open Go.RowKit

/- the table of powers and the two sentinels lie there -/
structure Env (w : World) : Prop where
  tab : Lib.TabIs Tryd.prog w "internal/strconv.uint64pow10" .u64 Lib.pow10Tab
  syn : ∃ t p, w.cell? ⟨4, 0, none⟩ = some (.iface t p)
  rng : ∃ t p, w.cell? ⟨5, 0, none⟩ = some (.iface t p)
theorem Env.gr {w w' : World} (h : Env w) (g : Gr w w') : Env w' := by
  obtain ⟨ht, ⟨t1, p1, h1⟩, ⟨t2, p2, h2⟩⟩ := h
  refine ⟨?_, ⟨t1, p1, g.keep h1⟩, ⟨t2, p2, g.keep h2⟩⟩
  have hb : 5 < w.heap.size := World.block_lt_of_cell? w _ h2
  exact var?_below g.below (by kernel_rfl : Tryd.prog.globalNamed "internal/strconv.uint64pow10" = some 0) (by omega) ht

theorem gr_grow (w : World) (k : Nat) (obs : Array Obj) : Gr w (Sort.grow (w.drewN k) obs) := by
  refine ⟨⟨rfl, rfl, rfl, ?_, ?_⟩⟩
  · simp [Sort.grow, World.drewN]
  · intro j hj
    simp [Sort.grow, World.drewN, Array.getElem?_append, hj]

theorem itoa_any (n : Nat) (w : World) (hn : n ≤ 9223372036854775807) (he : Env w) : Calls Tryd.prog 41 #[.int .i64 n] w fun e w' => e = .returned (.string ⟨(Lib.decDigits n).toArray⟩) ∧ Gr w w' := by
  refine (Tryd.strconv_Itoa n (by omega) (by omega) w he.tab).mono ?_
  rintro e w' ⟨rfl, k, obs, rfl⟩
  refine ⟨?_, gr_grow w k obs⟩
  have : Lib.itoa (n : Int) = Lib.decDigits n := by
    unfold Lib.itoa
    rw [if_neg (by omega)]; rfl
  rw [this]

def numE (l : List UInt8) : Int := match Lib.atoiAll l with
  | .ok v => v
  | _ => -1

set_option maxHeartbeats 1000000 in
theorem readNumber_any (s : ByteArray) (w : World) (hs : s.size ≤ 140737488355328) (he : Env w) : Calls Tryd.prog 54 #[.string s] w fun e w' => e = .returned (.int .i64 (numE s.data.toList)) ∧ Gr w w' := by
  obtain ⟨_, ⟨t1, p1, h1⟩, ⟨t2, p2, h2⟩⟩ := he
  cases hr : Lib.atoiAll s.data.toList with
  | ok v =>
    have HA : Hid (Calls Tryd.prog 60 #[.string s] w fun e w' => e = .returned (.tuple #[.int .i64 v, .nilIface]) ∧ Gr w w') := by
      refine (Tryd.strconv_Atoi_ok s (by omega) v hr w).mono ?_
      rintro e w' ⟨rfl, rfl | ⟨t, rfl⟩⟩
      · exact ⟨rfl, Gr.refl _⟩
      · exact ⟨rfl, ⟨⟨rfl, rfl, rfl, by rw [Lib.bytesWorld_size]; omega, fun k hk => Lib.bytesWorld_at_old w 5 t k hk⟩⟩⟩
    have HN : Hid (numE s.data.toList = v) := by show _ = _; simp [numE, hr]
    clear hr
    go_enter Tryd.func54, Tryd.ntmps54
    go_wp2_with fail
    refine HA.out.mono ?_
    rintro e1 w1 ⟨rfl, hg1⟩
    go_wp2
    go_ret
    exact ⟨by rw [HN.out]; rfl, hg1⟩
  | «syntax» =>
    have HA : Hid (Calls Tryd.prog 60 #[.string s] w fun e w' => ∃ N, e = .returned (.tuple #[.int .i64 0, .iface 106 (.pointer (some ⟨N, 0, none⟩))]) ∧ Gr w w') := by
      refine (Tryd.strconv_Atoi_syntax s (by omega) hr _ w h1 (Or.inr ⟨_, _, rfl⟩)).mono ?_
      rintro e w' ⟨N, rfl, _, _, hb⟩
      exact ⟨N, rfl, ⟨hb⟩⟩
    have HN : Hid (numE s.data.toList = -1) := by show _ = _; simp [numE, hr]
    clear hr
    go_enter Tryd.func54, Tryd.ntmps54
    go_wp2_with fail
    refine HA.out.mono ?_
    rintro e1 w1 ⟨N, rfl, hg1⟩
    go_wp2
    go_ret
    exact ⟨by rw [HN.out]; rfl, hg1⟩
  | range =>
    have HA : Hid (Calls Tryd.prog 60 #[.string s] w fun e w' => ∃ N, e = .returned (.tuple #[.int .i64 (Lib.atoiSat s.data.toList), .iface 106 (.pointer (some ⟨N, 0, none⟩))]) ∧ Gr w w') := by
      refine (Tryd.strconv_Atoi_range s (by omega) hr _ w h2 (Or.inr ⟨_, _, rfl⟩)).mono ?_
      rintro e w' ⟨N, rfl, _, _, hb⟩
      exact ⟨N, rfl, ⟨hb⟩⟩
    have HN : Hid (numE s.data.toList = -1) := by show _ = _; simp [numE, hr]
    clear hr
    go_enter Tryd.func54, Tryd.ntmps54
    go_wp2_with fail
    refine HA.out.mono ?_
    rintro e1 w1 ⟨N, rfl, hg1⟩
    go_wp2
    go_ret
    exact ⟨by rw [HN.out]; rfl, hg1⟩
end Go.Proofs.YtmidlcipbpchgaaDoor
