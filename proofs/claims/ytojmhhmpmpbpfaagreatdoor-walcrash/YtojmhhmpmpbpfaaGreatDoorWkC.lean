/- The statements' own on logs: among. -/
import Derived.Test.YtojmhhmpmpbpfaaGreatDoorGBA
import Derived.Test.YtojmhhmpmpbpfaaGreatDoorGL
import Derived.Test.YtojmhhmpmpbpfaaGreatDoorOpnW
namespace Go.Proofs.YtojmhhmpmpbpfaaGreatDoor
open Go.RowKit Go.Maps
open Dk (Fl Fo St Ok)
variable {u w w' w1 : World} {b m g : Nat} {s : St} {l : Wl.Lg} {h : Wl.Bo}

/- rows of strings in a row -/
structure Mrow where
  ad : Option Addr
  cap : Nat
  L : List ByteArray
def mrf (x : Mrow) : Value := .slice x.ad x.L.length x.cap
structure MaAt (w : World) (q n : Nat) (M : List Mrow) : Prop where
  len : M.length = n
  at_ : ∀ j (hj : j < M.length), w.cell? ⟨q, j, none⟩ = some (mrf M[j])
  row : ∀ x ∈ M, StrsAt w x.ad x.L ∧ x.L.length ≤ 1000000
theorem MaAt.gr {q n : Nat} {M : List Mrow} (k : MaAt w q n M) (e : Gr w w') : MaAt w' q n M := ⟨k.len, fun j hj => e.keep (k.at_ j hj), fun x hx => ⟨(k.row x hx).1.gr e, (k.row x hx).2⟩⟩
set_option maxHeartbeats 4000000 in
set_option maxRecDepth 100000 in
theorem among_any {q n c : Nat} {M : List Mrow} (hM : MaAt w q n M) (hn : n ≤ 1000) (L : List ByteArray) (ad : Option Addr) (cap : Nat) (hL : StrsAt w ad L) (hl : L.length ≤ 1000000) (hin : ∃ x ∈ M, x.L = L) :
    Calls Tryz.prog 22 #[.slice ad L.length cap, .slice (some ⟨q, 0, none⟩) n c] w fun e w' => e = .returned (.bool true) ∧ Gr w w' := by
  have HM := Lib.hid hM
  have HL := Lib.hid hL
  have HI := Lib.hid hin
  have HLe := Lib.hid hM.len
  clear hM hL hin
  go_enter Tryz.func22, Tryz.ntmps22
  go_wp2
  go_loopw [5] (fun i wr => ∃ k : Nat, k ≤ n ∧ i = .int .i64 (k : Int) ∧ (∀ j (hj : j < M.length), j < k → M[j].L ≠ L) ∧ Gr w wr) (fun i _ => n - (intOf i).toNat)
  case atStart => exact ⟨0, by omega, rfl, (fun j _ h => by omega), Gr.refl w⟩
  case round =>
    obtain ⟨k, hk, rfl, hne, hg⟩ := hrel
    by_cases hlt : k < n
    · have hkm : k < M.length := by have := HLe.out; omega
      have hc := hg.keep (HM.out.at_ k hkm)
      have hrw := HM.out.row _ (List.getElem_mem hkm)
      have HS : Hid (∀ w', Gr w w' → Calls Tryz.prog 10 #[.slice ad L.length cap, .slice M[k].ad M[k].L.length M[k].cap] w' fun e w2 => e = .returned (.bool (decide (L = M[k].L))) ∧ Gr w' w2) := fun w' e => sameG_any L M[k].L ad M[k].ad cap M[k].cap w' (by omega) (by omega) (HL.out.gr e) (hrw.1.gr e)
      have HNe := Lib.hid hne
      have HG := Lib.hid hg
      have hki : (k : Int) < (n : Int) := by omega
      unfold mrf at hc
      clear hrw hg hne
      by_cases hq : L = M[k].L
      · rw [decide_eq_true hq] at HS
        clear hq
        generalize M[k] = x at *
        obtain ⟨xa, xc, xL⟩ := x
        simp only at *
        go_wp2_with fail
        refine (HS.out _ HG.out).mono ?_
        rintro e w2 ⟨rfl, hg2⟩
        have HG2 := Lib.hid (HG.out.trans hg2)
        clear hg2
        go_wp2
        go_ret
        exact ⟨rfl, HG2.out⟩
      · rw [decide_eq_false hq] at HS
        have HN2 : Hid (∀ j (hj : j < M.length), j < k + 1 → M[j].L ≠ L) := by
          intro j hj h
          by_cases e : j = k
          · subst e; exact fun e => hq e.symm
          · exact HNe.out j hj (by omega)
        clear hq HNe
        generalize M[k] = x at *
        obtain ⟨xa, xc, xL⟩ := x
        simp only at *
        go_wp2_with fail
        refine (HS.out _ HG.out).mono ?_
        rintro e w2 ⟨rfl, hg2⟩
        have HG2 := Lib.hid (HG.out.trans hg2)
        clear hg2
        go_wp2
        go_roundw
        case rel => exact ⟨k + 1, by omega, by simp, HN2.out, HG2.out⟩
        case measure => simp [intOf]; omega
    · exfalso
      obtain ⟨x, hx, e⟩ := HI.out
      obtain ⟨j, hj, rfl⟩ := List.getElem_of_mem hx
      exact hne j hj (by have := HLe.out; omega) e
end Go.Proofs.YtojmhhmpmpbpfaaGreatDoor
