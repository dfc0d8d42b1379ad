
/- wheel: strings.Clone, Drop whatever is there, Set. -/
import Derived.Test.YtmgiiofjlgchfaaDoorWhE
namespace Go.Proofs.YtmgiiofjlgchfaaDoor
open Go.RowKit Go.Maps Go.Sort
open Wh (Tm Sl ks hasK atK del ins put dig whl Inv)

theorem infoStr : (Tryd.prog.info? 9).map (fun i => (i.zero, i.size, i.bytes)) = some (some (.string ⟨#[]⟩), 1, 16) := by kernel_rfl
set_option maxHeartbeats 1000000 in
theorem clone_any (s : ByteArray) (w : World) (h : s.size ≤ 281474976710656) :
    Calls Tryd.prog 27 #[.string s] w fun e w' => e = .returned (.string s) ∧ Gr w w' := by
  have HC := Tryd.stringslite_Clone s w h
  go_enter Tryd.func27, Tryd.ntmps27
  go_wp2_with (go_at_call 34; refine HC.mono ?_; rintro e w' ⟨rfl, hb⟩)
  go_ret
  exact ⟨rfl, Gr.of hb⟩
def DrA (w w' : World) (b m t : Nat) (L : List Tm) (V : Vl) : Prop := ∃ S' V', WAt w' b m t L S' V' ∧ Inv t L S' ∧ Tn w w' b m V V'
theorem drop_any {b m t : Nat} {L : List Tm} {S : Sl} {V : Vl} {w : World} (h : WAt w b m t L S V) (hi : Inv t L S) (k : ByteArray) (hk : k.size ≤ 9223372036854775807) :
    Calls Tryd.prog 14 #[ptr b, .string k] w fun e w' => e = .returned (.bool (hasK L k)) ∧ DrA w w' b m t (del L k) V := by
  cases hh : hasK L k with
  | false =>
    refine (drop_no h hi k hk hh).mono ?_
    rintro e w' ⟨rfl, hg⟩
    rw [Wh.del_none hh]
    exact ⟨rfl, S, V, h.gr hg, hi, Tn.gr hg⟩
  | true =>
    refine (drop_yes h hi k hk hh).mono ?_
    rintro e w' ⟨rfl, V', h1, h2⟩
    obtain ⟨a, ha⟩ := Wh.hasK_mem hh
    have hat := Wh.atK_of hi.ok.nd ha
    simp only at hat
    rw [hat] at h1
    exact ⟨rfl, _, V', h1, hi.drop ha, h2⟩

/- the last steps of Set: the map has the timer -/
theorem cell_one {w : World} {v : Value} {T : TypeId} {g : Nat} (hg : g = w.heap.size) : ∀ j u, [v][j]? = some u → (w.alloc (.cells #[v] T)).cell? ((⟨g, 0, none⟩ : Addr).add j) = some u := by
  subst hg
  intro j u hu
  match j, hu with
  | 0, hu => cases hu; simp [Addr.add]

set_option maxHeartbeats 2000000 in
set_option maxRecDepth 100000 in
theorem set_arg {b m t : Nat} {L : List Tm} {S : Sl} {V : Vl} {w : World} (h : WAt w b m t L S V) (k : ByteArray) (a : Int) (hbad : k.size = 0 ∨ 100 < k.size ∨ 1000000000 < a) :
    Calls Tryd.prog 11 #[ptr b, .string k, .int .i64 a] w fun e w' => e = .returned (.int .i64 2) ∧ w' = w := by
  have hN := isNone_any h
  clear h
  by_cases h0 : k.size = 0
  · have hz : (k.toList == []) = true := by
      rw [Wh.toL]
      have : k.data.toList = [] := by
        apply List.length_eq_zero_iff.1
        rw [Array.length_toList]; exact h0
      rw [this]; rfl
    go_enter Tryd.func11, Tryd.ntmps11
    go_wp2_with (go_at_call 26; refine hN.mono ?_; rintro e w' ⟨rfl, rfl⟩)
    go_ret
    exact ⟨rfl, rfl⟩
  · have hz : (k.toList == []) = false := by
      rw [Wh.toL]
      cases hk : k.data.toList with
      | nil =>
        exfalso
        apply h0
        have := congrArg List.length hk
        rw [Array.length_toList] at this
        exact this
      | cons x l => rfl
    by_cases h1 : 100 < k.size
    · have h1' : (100 : Int) < (k.size : Int) := by omega
      go_enter Tryd.func11, Tryd.ntmps11
      go_wp2_with (go_at_call 26; refine hN.mono ?_; rintro e w' ⟨rfl, rfl⟩)
      go_ret
      exact ⟨rfl, rfl⟩
    · have h1' : ¬ (100 : Int) < (k.size : Int) := by omega
      have h2 : 1000000000 < a := by omega
      go_enter Tryd.func11, Tryd.ntmps11
      go_wp2_with (go_at_call 26; refine hN.mono ?_; rintro e w' ⟨rfl, rfl⟩)
      go_ret
      exact ⟨rfl, rfl⟩
end Go.Proofs.YtmgiiofjlgchfaaDoor
