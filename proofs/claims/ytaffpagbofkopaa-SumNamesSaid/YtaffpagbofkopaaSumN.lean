/-
  The chapter's examples are so: the statement SumNames. Conditions: none.
-/
import Derived.Test.YtaffpagbofkopaaSumK
namespace Go.Proofs.Ytaffpagbofkopaa
open Go.ChangeShapes Go.WideShapes Go.ChangeAt Go.RowKit Go.Joins
set_option linter.unusedVariables false

theorem none_of : sumOf [] = 11994318 := rfl
theorem right_1 : rightB [49, 50, 51, 52, 53, 54, 55, 56, 57, 33, 207, 2] = true := by decide +kernel
theorem right_2 : rightB [] = false := by decide +kernel
theorem right_3 : rightB [49, 50, 51, 52, 53, 54, 55, 56, 57, 33, 207, 3] = false := by decide +kernel
theorem right_4 : rightB [183, 4, 206] = true := by decide +kernel

set_option maxHeartbeats 1000000 in
theorem snames_walk (w : World) :
    Calls Try.prog 3 #[] w fun e w' => e = .returned (.bool true) ∧ Below w.heap.size w w' := by
  have H0 := hid none_of
  have H1 := hid right_1
  have H2 := hid right_2
  have H3 := hid right_3
  have H4 := hid right_4
  have kc := conv_const
  go_enter Try.func3, Try.ntmps3
  go_wp2_with fail
  refine (alive_any _).mono ?_
  rintro e w1 ⟨rfl, b1⟩
  go_wp2_with fail
  refine (of_of 11994318 none 0 0 [] (hid rfl) H0 _ (Rd.nil _)).mono ?_
  rintro e w2 ⟨rfl, rfl⟩
  go_wp2_with fail
  refine (right_of true _ 12 12 [49, 50, 51, 52, 53, 54, 55, 56, 57, 33, 207, 2] (hid rfl) (by omega) H1 _ (mark_rd w1 [49, 50, 51, 52, 53, 54, 55, 56, 57, 33, 207, 2] (12, 13) (by simp))).mono ?_
  rintro e w2 ⟨rfl, b2⟩
  replace b1 := (b1.alloc b1.size _).trans (b2.mono (by simp; have := b1.size; omega))
  clear b2
  go_wp2_with fail
  refine (right_of false none 0 0 [] (hid rfl) (by omega) H2 _ (Rd.nil _)).mono ?_
  rintro e w3 ⟨rfl, b3⟩
  replace b1 := b1.trans (b3.mono b1.size)
  clear b3
  go_wp2_with fail
  refine (right_of false _ 12 12 [49, 50, 51, 52, 53, 54, 55, 56, 57, 33, 207, 3] (hid rfl) (by omega) H3 _ (mark_rd w3 [49, 50, 51, 52, 53, 54, 55, 56, 57, 33, 207, 3] (12, 13) (by simp))).mono ?_
  rintro e w4 ⟨rfl, b4⟩
  replace b1 := (b1.alloc b1.size _).trans (b4.mono (by simp; have := b1.size; omega))
  clear b4
  go_wp2_with fail
  refine (right_of true _ 3 3 [183, 4, 206] (hid rfl) (by omega) H4 _ (mark_rd w4 [183, 4, 206] (3, 4) (by simp))).mono ?_
  rintro e w5 ⟨rfl, b5⟩
  replace b1 := (b1.alloc b1.size _).trans (b5.mono (by simp; have := b1.size; omega))
  go_wp2
  go_ret
  exact ⟨rfl, b1⟩

set_option maxRecDepth 100000 in
theorem snames_lifted (os : Os) (started : os.Started) (H : Type) (enc : TypeId × Value → H) :
    ReturnsInHanded {} Try.checked os 3 .any (Rows.sumNamesSpec.pre6 enc Try.prog Try.f3 Rows.sumNamesRow.domain false) (Rows.sumNamesSpec.post enc Try.prog Try.f3 false true false false) := by
  refine returnsInHanded_of_change (C := Try.checked) own started (by kernel_rfl) Try.func3
    (ChangeSpec.witness6 (enc := enc) (C := Try.checked) false ⟨#[], #[], []⟩ 8 (by kernel_rfl) (by kernel_rfl) (by kernel_rfl) (by kernel_rfl)) ?_
  intro W base args ds gs before hval0 hW _ _
  have hval : ∀ (j : Nat) t v, Try.f3.params[j]? = some t → args[j]? = some v → Value.okWide Try.prog W .any base t v := hval0
  have hW' := hW
  obtain ⟨p, q, hA0, hV, rfl, _, _⟩ := hW
  have hA : DataW.TrodAll enc Try.prog W 0 (fun _ => true) true Try.f3.params.toList args.toList ds p := hA0
  rw [Try.params3] at hA hval
  obtain ⟨rfl, rfl, rfl⟩ := trodAll_none hA
  obtain ⟨rfl, rfl⟩ := trodVars_none hV
  refine (snames_walk  W).mono fun e W' ⟨he, hg⟩ => ?_
  subst he
  exact ⟨_, rfl, law_post laidOut (by kernel_rfl) rfl Try.underlying4 rfl rfl hW' hg⟩

theorem snames_holds : Rows.SumNamesSaid :=
  OpenClaim.holds_of_wide 3 Try.f3 rfl rfl rfl rfl rfl rfl rfl ⟨rfl, rfl, rfl, rfl, rfl⟩ rfl rfl rfl rfl rfl (by kernel_rfl) Try.func3 (by kernel_rfl)
    (of_decide_eq_true (by kernel_rfl)) (by unfold Func.isWrapper; rw [if_neg (of_decide_eq_false (by kernel_rfl))]; exact ⟨rfl, rfl⟩)
    (fun os started H enc _ => snames_lifted os started H enc)
#print axioms snames_holds
end Go.Proofs.Ytaffpagbofkopaa
