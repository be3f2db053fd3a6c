/-
  The limit and the error have their numbers, and the chapter's examples are so: the statement LabelNames.
-/
import Derived.Test.YthjpiopnaaielaaLabK
namespace Go.Proofs.Ythjpiopnaaielaa
open Go.ChangeShapes Go.WideShapes Go.ChangeAt Go.RowKit Go.Joins
set_option linter.unusedVariables false

set_option maxHeartbeats 1000000 in
theorem names_walk (w : World) :
    Calls Try.prog 3 #[] w fun e w' => e = .returned (.bool true) ∧ Below w.heap.size w w' := by
  have hk : ck 16 = 8 := by decide
  go_enter Try.func3, Try.ntmps3
  go_wp2_with fail
  go_call of_any 16 0 _ as e w1 ⟨rfl, b1⟩
  go_wp2_with fail
  go_call of_any 0 0 _ as e w2 ⟨rfl, b2⟩
  go_wp2_with fail
  go_call join_of 16 0 0 0 0 0 8 _ (by decide) (by decide) (by decide) as e w3 ⟨rfl, b3⟩
  have z1 := b1.size
  have z2 := b2.size
  have z3 := b3.size
  have B3 := (b1.trans (b2.mono z1)).trans (b3.mono (by omega))
  clear b1 b2 b3
  go_wp2_with fail
  go_call of_any 0 0 _ as e w4 ⟨rfl, b4⟩
  go_wp2_with fail
  go_call of_any 16 0 _ as e w5 ⟨rfl, b5⟩
  go_wp2_with fail
  go_call meet_of 0 0 16 0 0 0 8 _ (by decide) (by decide) (by decide) as e w6 ⟨rfl, b6⟩
  have z4 := b4.size
  have z5 := b5.size
  have z6 := b6.size
  simp only [World.size_alloc] at z4
  have B6 : Below w.heap.size w w6 := (((B3.alloc (by omega) _).trans (b4.mono (by simp; omega))).trans (b5.mono (by omega))).trans (b6.mono (by omega))
  clear b4 b5 b6
  have zw : w.heap.size ≤ w6.heap.size := by omega
  clear z1 z2 z3 z4 z5 z6 B3
  go_wp2_with (refine wpList_past ?_; (repeat (go_big_quiet_step (first | exact quiet_below (of_any _ _ _) | exact quiet_below (ahead_of _ _ _ _ _ true (by decide)) | exact quiet_below (ahead_of _ _ _ _ _ false (by decide)) | exact quiet_below (alive_any _) | exact quiet_below (check_of _ _ _ _ (by assumption))))); (refine wpQuiet_nil ?_); (rintro w7 ⟨⟨_, hx⟩, rfl⟩))
  go_ret
  exact ⟨rfl, (B6.alloc zw _).trans (hx.mono (by simp; omega))⟩

set_option maxRecDepth 100000 in
theorem names_lifted (os : Os) (started : os.Started) (H : Type) (enc : TypeId × Value → H) :
    ReturnsInHanded {} Try.checked os 3 .any (Rows.labelNamesSpec.pre6 enc Try.prog Try.f3 Rows.labelNamesRow.domain false) (Rows.labelNamesSpec.post enc Try.prog Try.f3 false true false false) := by
  refine returnsInHanded_of_change (C := Try.checked) own started (by kernel_rfl) Try.func3
    (ChangeSpec.witness6 (enc := enc) (C := Try.checked) false ⟨#[], #[], []⟩ 8 (by kernel_rfl) (by kernel_rfl) (by kernel_rfl) (by kernel_rfl)) ?_
  intro W base args ds gs before hval0 hW _ _
  have hval : ∀ (j : Nat) t v, Try.f3.params[j]? = some t → args[j]? = some v → Value.okWide Try.prog W .any base t v := hval0
  have hW' := hW
  obtain ⟨p, q, hA0, hV, rfl, _, _⟩ := hW
  have hA : DataW.TrodAll enc Try.prog W 0 (fun _ => true) true Try.f3.params.toList args.toList ds p := hA0
  rw [Try.params3] at hA hval
  obtain ⟨rfl, rfl, rfl⟩ := trodAll_none hA
  obtain ⟨rfl, rfl⟩ := trodVars_none hV
  refine (names_walk   W).mono fun e W' ⟨he, hg⟩ => ?_
  subst he
  exact ⟨_, rfl, law_post laidOut (by kernel_rfl) rfl Try.underlying4 rfl rfl hW' hg⟩

theorem names_holds : Rows.LabelNamesSaid :=
  OpenClaim.holds_of_wide 3 Try.f3 rfl rfl rfl rfl rfl rfl rfl ⟨rfl, rfl, rfl, rfl, rfl⟩ rfl rfl rfl rfl rfl (by kernel_rfl) Try.func3 (by kernel_rfl)
    (of_decide_eq_true (by kernel_rfl)) (by unfold Func.isWrapper; rw [if_neg (of_decide_eq_false (by kernel_rfl))]; exact ⟨rfl, rfl⟩)
    (fun os started H enc _ => names_lifted os started H enc)
#print axioms names_holds
end Go.Proofs.Ythjpiopnaaielaa
