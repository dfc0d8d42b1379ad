/- For every string the law PackForms answers true: what is taken, laid, is the bytes that it was taken from, and a beginning of these is not taken. -/
import Derived.Test.YtnkbnjkdlnafpaaRows
import Derived.Test.YtnkbnjkdlnafpaaAwk
import Derived.Test.YtnkbnjkdlnafpaaTakeL
import Derived.Test.YtnkbnjkdlnafpaaMath7
import Derived.ProofKit
import Derived.OpenShut
import Derived.ShutString
import Derived.Deep.RegionHeld3
namespace Go.Proofs.Ytnkbnjkdlnafpaa
open Go.ChangeShapes Go.WideShapes Go.ChangeAt Go.RowKit
open Go.ChangeMaps (open_string shut_string)

theorem map_mkT (l : List (List UInt8)) : (l.map mkT).map (fun s => s.data.toList) = l := by
  induction l with
  | nil => rfl
  | cons t l ih => simp only [List.map_cons, ih]; rfl
theorem ext0_list (s : ByteArray) (k : Nat) : (s.extract 0 k).toList = s.data.toList.take k := by
  have h := ext_data s 0 k
  rw [Nat.zero_add] at h
  rw [ByteArray.toList_eq, h, List.drop_zero]

set_option maxHeartbeats 2000000 in
set_option maxRecDepth 100000 in
theorem packForms_walk (s : ByteArray) (w : World) (hs : s.size ≤ 9223372036854775807) :
    Calls Try.prog 8 #[.string s] w fun e w' => e = .returned (.bool true) ∧ Gr w w' := by
  by_cases hbig : 20000 < s.size
  · go_enter Try.func8, Try.ntmps8
    go_wp2_with fail
    refine (awake_any _).mono ?_
    rintro e w1 ⟨rfl, hg1⟩
    go_wp2
    go_ret
    exact ⟨rfl, (by repeat (first | exact Gr.refl _ | refine Gr.alloc ?_ | refine Gr.drew ?_ | refine Gr.trans ?_ (by assumption)))⟩
  · have hsz : s.data.toList.length = s.size := by simp
    have hlen : (Pk.takeTexts s.data.toList 0).1.length ≤ s.size := by
      have := Pk.takeTexts_len s.data.toList 0
      omega
    have H1 := fun w => takeTexts_any s 0 w (by omega)
    have herr := Pk.takeTexts_err s.data.toList 0
    have hform := fun l q h => Pk.takeTexts_form s.data.toList l q h (l.map mkT) (map_mkT l)
    have hcut := fun m l q => Pk.takeTexts_cut s.data.toList m l q
    generalize Pk.takeTexts s.data.toList 0 = T at *
    obtain ⟨l, q, e⟩ := T
    simp only at *
    have H1' : Hid (∀ w : World, Calls Try.prog 25 #[.string s, .int .i64 0] w fun e' w' => ∃ ad cap, e' = .returned (.tuple #[.slice ad l.length cap, .int .i64 q, .int .i64 e]) ∧ StrsAt w' ad (l.map mkT) ∧ Gr w w') := H1
    clear H1
    by_cases he : e = 0
    · subst he
      obtain ⟨hq1, hq2, hq3, a, ha1, ha2, ha3⟩ := hform l q rfl
      have hcut1 := hcut (q - 1) l q rfl (by omega)
      obtain ⟨m, rfl⟩ : ∃ m, q = m + 1 := ⟨q - 1, by omega⟩
      rw [Nat.add_sub_cancel] at hcut1
      rw [hsz] at hq2 ha2
      have hx1 := ext0_list s (m + 1)
      have hx2 := ext0_list s m
      have hx3 := ext0_list s a
      rw [hq3] at hx1
      rw [ha3] at hx3
      have hx2' : (s.extract 0 m).data.toList = s.data.toList.take m := by rw [← ByteArray.toList_eq]; exact hx2
      have H2 := fun w => takeTexts_any (s.extract 0 m) 0 w (by
        have : (s.extract 0 m).data.toList.length ≤ s.size := by rw [hx2', List.length_take]; omega
        have h2 : (s.extract 0 m).data.toList.length = (s.extract 0 m).size := by rw [Array.length_toList]; rfl
        omega)
      rw [hx2', hcut1] at H2
      have H2' : Hid (∀ w : World, Calls Try.prog 25 #[.string (s.extract 0 m), .int .i64 0] w fun e' w' => ∃ ad cap, e' = .returned (.tuple #[.slice ad 0 cap, .int .i64 0, .int .i64 10]) ∧ Gr w w') := by
        intro w
        refine (H2 w).mono ?_
        rintro e' w' ⟨ad, cap, h1, _, h3⟩
        exact ⟨ad, cap, h1, h3⟩
      have H3 := fun w => takeNumber_any s 0 w (by omega)
      rw [ha1] at H3
      have H3' : Hid (∀ w : World, Calls Try.prog 19 #[.string s, .int .i64 0] w fun e w' => e = .returned (.tuple #[.int .u64 l.length, .int .i64 a, .int .i64 0]) ∧ w' = w) := H3
      have H4 : Hid (∀ w : World, Calls Try.prog 9 #[.int .u64 l.length] w fun e w' => e = .returned (.string ⟨(Pk.num l.length).toArray⟩) ∧ Gr w w') := fun w => number_any l.length w (by omega)
      have H5 : Hid (∀ (w : World) (ad : Option Addr) (cap : Nat), StrsAt w ad (l.map mkT) → Calls Try.prog 17 #[.slice ad l.length cap] w fun e w' => e = .returned (.string ⟨(Pk.texts (l.map mkT)).toArray⟩) ∧ Gr w w') := by
        intro w ad cap h
        have := texts_any (l.map mkT) ad cap w h (by rw [← hq3, List.length_take]; omega) (by rw [List.length_map]; omega)
        rwa [List.length_map] at this
      have hb1 : (Pk.texts (l.map mkT) == (s.extract 0 (m + 1)).toList) = true := by rw [hx1]; simp
      have hb3 : (Pk.num l.length == (s.extract 0 a).toList) = true := by rw [hx3]; simp
      generalize Pk.texts (l.map mkT) = tx at *
      generalize Pk.num l.length = nx at *
      have hd1 : decide ((m : Int) + 1 < 1) = false := by simp; omega
      have hd2 : decide ((s.size : Int) < (m : Int) + 1) = false := by simp; omega
      have hTN : ((m : Int) + 1).toNat = m + 1 := by omega
      have hI1 : (0 : Int) ≤ (m : Int) + 1 := by omega
      have hI2 : (m : Int) + 1 ≤ (s.size : Int) := by omega
      have hI3 : (a : Int) ≤ (s.size : Int) := by omega
      have hWr : IntKind.u64.wrap (l.length : Int) = (l.length : Int) := w64 _ (by omega) (by omega)
      clear hform hcut herr hcut1 hx1 hx2 hx3 hx2' H2 H3 ha1 ha3 hq3 hsz hq1
      go_enter Try.func8, Try.ntmps8
      go_wp2_with fail
      refine (H1'.out _).mono ?_
      rintro e' w1 ⟨ad, cap, rfl, hst, hg1⟩
      have H5' : Hid (∀ (w' : World), Gr w1 w' → Calls Try.prog 17 #[.slice ad l.length cap] w' fun e w2 => e = .returned (.string ⟨tx.toArray⟩) ∧ Gr w' w2) := fun w' g => H5.out w' ad cap (hst.gr g)
      clear hst
      go_wp2_with fail
      go_region_held3 (fun _ => True) (trivial) ((go_at_call 17; refine (H5'.out _ (by exact (by repeat (first | exact Gr.refl _ | refine Gr.alloc ?_ | refine Gr.drew ?_ | refine Gr.trans ?_ (by assumption))))).mono ?_; rintro e w2 ⟨rfl, hg2⟩))
      go_wp2_with fail
      refine (H2'.out _).mono ?_
      rintro e' w3 ⟨ad3, cap3, rfl, hg3⟩
      go_wp2_with fail
      refine (H3'.out _).mono ?_
      rintro e' w4 ⟨rfl, rfl⟩
      go_wp2_with fail
      go_region_held3 (fun _ => True) (trivial) ((first | (go_at_call 9; refine (H4.out _).mono ?_; rintro e w5 ⟨rfl, hg5⟩) | (go_at_call 13; refine (awake_any _).mono ?_; rintro e w6 ⟨rfl, hg6⟩)))
      go_wp2
      go_ret
      exact ⟨by simp, (by repeat (first | exact Gr.refl _ | refine Gr.alloc ?_ | refine Gr.drew ?_ | refine Gr.trans ?_ (by assumption)))⟩
    · obtain ⟨h1, h2⟩ := herr he
      subst h1 h2
      have hen : ((e : Int) != 0) = true := by simp; omega
      clear hform hcut herr
      go_enter Try.func8, Try.ntmps8
      go_wp2_with fail
      refine (H1'.out _).mono ?_
      rintro e' w1 ⟨ad, cap, rfl, hst, hg1⟩
      go_wp2_with fail
      refine (awake_any _).mono ?_
      rintro e' w2 ⟨rfl, hg2⟩
      go_wp2
      go_ret
      exact ⟨by simp, (by repeat (first | exact Gr.refl _ | refine Gr.alloc ?_ | refine Gr.drew ?_ | refine Gr.trans ?_ (by assumption)))⟩

theorem forms_own : ownKnob Try.prog.godebug = none := by kernel_rfl

set_option maxRecDepth 100000 in
theorem packForms_lifted (os : Os) (started : os.Started) (H : Type) (enc : TypeId × Value → H) :
    ReturnsInHanded {} Try.checked os 8 .any (Rows.packFormsSpec.pre6 enc Try.prog Try.f8 Rows.packFormsRow.domain false) (Rows.packFormsSpec.post enc Try.prog Try.f8 false true false false) := by
  refine returnsInHanded_of_change (C := Try.checked) forms_own started (by kernel_rfl) Try.func8
    (ChangeSpec.witness6 (enc := enc) (C := Try.checked) false ⟨#[], #[.string ByteArray.empty], []⟩ 8 (by kernel_rfl) (by kernel_rfl) (by kernel_rfl) (by kernel_rfl)) ?_
  intro W base args ds gs before hval0 hW hcnd _
  have hval : ∀ (j : Nat) t v, Try.f8.params[j]? = some t → args[j]? = some v → Value.okWide Try.prog W .any base t v := hval0
  have hW' := hW
  obtain ⟨p, q, hA0, hV, rfl, hfz, hnd⟩ := hW
  have hA : DataW.TrodAll enc Try.prog W 0 (fun _ => true) true Try.f8.params.toList args.toList ds p := hA0
  rw [Try.params8] at hA hval
  obtain ⟨v0, d0, rfl, rfl, h0⟩ := trodAll_one hA
  obtain ⟨rfl, rfl⟩ := trodVars_none hV
  obtain ⟨a, rfl, rfl, rfl, wa⟩ := open_string Try.underlying9 (hval 0 9 v0 rfl rfl) h0
  clear hA0 hval0
  refine (packForms_walk a W wa).mono fun e W' ⟨he, hg⟩ => ?_
  subst he
  exact ⟨_, rfl, _, _, _, [], _, [], hW', trodAll_mk1 (shut_bool Try.underlying4 _), trodAll_mk1 (shut_string Try.underlying9 wa), rfl, hg.below.frame _, fun h => by cases h⟩

theorem packForms_holds : Rows.PackFormsSaid :=
  OpenClaim.holds_of_wide 8 Try.f8 rfl rfl rfl rfl rfl rfl rfl ⟨rfl, rfl, rfl, rfl, rfl⟩ rfl rfl rfl rfl rfl (by kernel_rfl) Try.func8 (by kernel_rfl)
    (of_decide_eq_true (by kernel_rfl)) (by unfold Func.isWrapper; first | (rw [if_pos (by decide +kernel)]; kernel_rfl) | (rw [if_neg (by decide +kernel)]; exact ⟨rfl, rfl⟩))
    (fun os started H enc _ => packForms_lifted os started H enc)
end Go.Proofs.Ytnkbnjkdlnafpaa
