/-
  Of two unlike ids just one is less, and what is less than one that is less is less: the statement IdsOrder, for every three ids. Conditions: none.
-/
import Derived.Test.YtpmpngdejikhhaaIdK
namespace Go.Proofs.Ytpmpngdejikhhaa
open Go.ChangeShapes Go.WideShapes Go.ChangeAt Go.RowKit Go.Joins
set_option linter.unusedVariables false

theorem lessB_iff (l c k n l' c' k' n' : Int) : lessB l c k n l' c' k' n' = true ↔ (n < n' ∨ n = n' ∧ (l < l' ∨ l = l' ∧ (c < c' ∨ c = c' ∧ k < k'))) := by simp [lessB]
theorem lessB_not (l c k n l' c' k' n' : Int) : lessB l c k n l' c' k' n' = false ↔ ¬ (n < n' ∨ n = n' ∧ (l < l' ∨ l = l' ∧ (c < c' ∨ c = c' ∧ k < k'))) := by rw [← lessB_iff]; simp
theorem sameI_iff (l c k n l' c' k' n' : Int) : sameI l c k n l' c' k' n' = true ↔ l = l' ∧ c = c' ∧ k = k' ∧ n = n' := by simp [sameI, and_assoc]
theorem sameI_not (l c k n l' c' k' n' : Int) : sameI l c k n l' c' k' n' = false ↔ ¬ (l = l' ∧ c = c' ∧ k = k' ∧ n = n') := by rw [← sameI_iff]; simp

theorem order_key (l c k n l' c' k' n' l2 c2 k2 n2 : Int) :
    (lessB l c k n l' c' k' n' = true ∧ lessB l' c' k' n' l c k n = false ∧ sameI l c k n l' c' k' n' = false ∧ (lessB l' c' k' n' l2 c2 k2 n2 = false ∨ (lessB l' c' k' n' l2 c2 k2 n2 = true ∧ lessB l c k n l2 c2 k2 n2 = true)) ∧ (decide (n' ≤ n) = true ∨ decide (n' ≤ n) = false)) ∨
      (lessB l c k n l' c' k' n' = false ∧ lessB l' c' k' n' l c k n = true ∧ sameI l c k n l' c' k' n' = false ∧ decide (n' ≤ n) = true) ∨
      (lessB l c k n l' c' k' n' = false ∧ lessB l' c' k' n' l c k n = false ∧ sameI l c k n l' c' k' n' = true ∧ decide (n' ≤ n) = true) := by
  cases h1 : lessB l c k n l' c' k' n'
  · have e1 := (lessB_not _ _ _ _ _ _ _ _).1 h1
    cases h2 : lessB l' c' k' n' l c k n
    · have e2 := (lessB_not _ _ _ _ _ _ _ _).1 h2
      refine .inr (.inr ⟨rfl, rfl, (sameI_iff _ _ _ _ _ _ _ _).2 (by omega), by simp; omega⟩)
    · have e2 := (lessB_iff _ _ _ _ _ _ _ _).1 h2
      refine .inr (.inl ⟨rfl, rfl, (sameI_not _ _ _ _ _ _ _ _).2 (by omega), by simp; omega⟩)
  · have e1 := (lessB_iff _ _ _ _ _ _ _ _).1 h1
    refine .inl ⟨rfl, (lessB_not _ _ _ _ _ _ _ _).2 (by omega), (sameI_not _ _ _ _ _ _ _ _).2 (by omega), ?_, by cases decide (n' ≤ n) <;> simp⟩
    cases h2 : lessB l' c' k' n' l2 c2 k2 n2
    · exact .inl rfl
    · have e2 := (lessB_iff _ _ _ _ _ _ _ _).1 h2
      exact .inr ⟨rfl, (lessB_iff _ _ _ _ _ _ _ _).2 (by omega)⟩

set_option maxHeartbeats 1600000 in
theorem iorder_walk (a0 a1 a2 a3 b0 b1 b2 b3 c0 c1 c2 c3 : Int) (w : World) :
    Calls Try.prog 6 #[.agg #[.int .u8 a0, .int .u32 a1, .int .u8 a2, .int .i64 a3], .agg #[.int .u8 b0, .int .u32 b1, .int .u8 b2, .int .i64 b3], .agg #[.int .u8 c0, .int .u32 c1, .int .u8 c2, .int .i64 c3]] w fun e w' =>
      e = .returned (.bool true) ∧ Below w.heap.size w w' := by
  have key := order_key a0 a1 a2 a3 b0 b1 b2 b3 c0 c1 c2 c3
  go_enter Try.func6, Try.ntmps6
  go_wp2_with fail
  go_call alive_any _ as e w1 ⟨rfl, hh⟩
  have hb : Below w.heap.size w w1 := below_in (by go_grown) hh
  (have x0 : w1.cell? ⟨w.heap.size, 0, none⟩ = some (.int .u8 a0) := (keep hh (by simp [go_sem])); have x1 : w1.cell? ⟨w.heap.size, 1, none⟩ = some (.int .u32 a1) := (keep hh (by simp [go_sem])); have x2 : w1.cell? ⟨w.heap.size, 2, none⟩ = some (.int .u8 a2) := (keep hh (by simp [go_sem])); have x3 : w1.cell? ⟨w.heap.size, 3, none⟩ = some (.int .i64 a3) := (keep hh (by simp [go_sem])))
  (have y0 : w1.cell? ⟨w.heap.size + 1, 0, none⟩ = some (.int .u8 b0) := (keep hh (by simp [go_sem])); have y1 : w1.cell? ⟨w.heap.size + 1, 1, none⟩ = some (.int .u32 b1) := (keep hh (by simp [go_sem])); have y2 : w1.cell? ⟨w.heap.size + 1, 2, none⟩ = some (.int .u8 b2) := (keep hh (by simp [go_sem])); have y3 : w1.cell? ⟨w.heap.size + 1, 3, none⟩ = some (.int .i64 b3) := (keep hh (by simp [go_sem])))
  (have z0 : w1.cell? ⟨w.heap.size + 1 + 1, 0, none⟩ = some (.int .u8 c0) := (keep hh (by simp [go_sem])); have z1 : w1.cell? ⟨w.heap.size + 1 + 1, 1, none⟩ = some (.int .u32 c1) := (keep hh (by simp [go_sem])); have z2 : w1.cell? ⟨w.heap.size + 1 + 1, 2, none⟩ = some (.int .u8 c2) := (keep hh (by simp [go_sem])); have z3 : w1.cell? ⟨w.heap.size + 1 + 1, 3, none⟩ = some (.int .i64 c3) := (keep hh (by simp [go_sem])))
  clear hh
  have hE := neq_id
  rcases key with ⟨h1, h2, h3, h4 | ⟨h4, h5⟩, h6 | h6⟩ | ⟨h1, h2, h3, h6⟩ | ⟨h1, h2, h3, h6⟩
  all_goals
    go_wp2_with ((first | refine wpList_past ?_ | refine wp_region_past (by kernel_rfl) (by kernel_rfl) ?_); (have p0 := Past.all x0; have p1 := Past.all x1; have p2 := Past.all x2; have p3 := Past.all x3); (have q0 := Past.all y0; have q1 := Past.all y1; have q2 := Past.all y2; have q3 := Past.all y3); (have r0 := Past.all z0; have r1 := Past.all z1; have r2 := Past.all z2; have r3 := Past.all z3); (repeat (go_big_quiet_step (first | exact quiet_below (less_of true _ _ _ _ _ _ _ _ _ (by assumption)) | exact quiet_below (less_of false _ _ _ _ _ _ _ _ _ (by assumption))))); (refine wpQuiet_nil ?_); (rintro w2 ⟨⟨_, hx⟩, rfl⟩); (replace hb := below_in hb hx); (replace x0 := keep hx x0; replace x1 := keep hx x1; replace x2 := keep hx x2; replace x3 := keep hx x3); (replace y0 := keep hx y0; replace y1 := keep hx y1; replace y2 := keep hx y2; replace y3 := keep hx y3); (replace z0 := keep hx z0; replace z1 := keep hx z1; replace z2 := keep hx z2; replace z3 := keep hx z3); (clear p0 p1 p2 p3 q0 q1 q2 q3 r0 r1 r2 r3 hx))
    go_ret
    exact ⟨rfl, hb⟩


set_option maxRecDepth 100000 in
theorem iorder_lifted (os : Os) (started : os.Started) (H : Type) (enc : TypeId × Value → H) :
    ReturnsInHanded {} Try.checked os 6 .any (Rows.idsOrderSpec.pre6 enc Try.prog Try.f6 Rows.idsOrderRow.domain false) (Rows.idsOrderSpec.post enc Try.prog Try.f6 false true false false) := by
  refine returnsInHanded_of_change (C := Try.checked) own started (by kernel_rfl) Try.func6
    (ChangeSpec.witness6 (enc := enc) (C := Try.checked) false ⟨#[], #[.agg #[.int .u8 0, .int .u32 0, .int .u8 0, .int .i64 0], .agg #[.int .u8 0, .int .u32 0, .int .u8 0, .int .i64 0], .agg #[.int .u8 0, .int .u32 0, .int .u8 0, .int .i64 0]], []⟩ 8 (by kernel_rfl) (by kernel_rfl) (by kernel_rfl) (by kernel_rfl)) ?_
  intro W base args ds gs before hval0 hW _ _
  have hval : ∀ (j : Nat) t v, Try.f6.params[j]? = some t → args[j]? = some v → Value.okWide Try.prog W .any base t v := hval0
  have hW' := hW
  obtain ⟨p, q, hA0, hV, rfl, _, _⟩ := hW
  have hA : DataW.TrodAll enc Try.prog W 0 (fun _ => true) true Try.f6.params.toList args.toList ds p := hA0
  rw [Try.params6] at hA hval
  obtain ⟨v0, v1, v2, d0, d1, d2, p0, p1, p2, rfl, rfl, rfl, h0, h1, h2⟩ := trodAll_three hA
  obtain ⟨rfl, rfl⟩ := trodVars_none hV
  obtain ⟨a0, a1, a2, a3, rfl, _⟩ := open_id (hval 0 _ v0 rfl rfl) h0
  obtain ⟨b0, b1, b2, b3, rfl, _⟩ := open_id (hval 1 _ v1 rfl rfl) h1
  obtain ⟨c0, c1, c2, c3, rfl, _⟩ := open_id (hval 2 _ v2 rfl rfl) h2
  refine (iorder_walk a0 a1 a2 a3 b0 b1 b2 b3 c0 c1 c2 c3 W).mono fun e W' ⟨he, hg⟩ => ?_
  subst he
  exact ⟨_, rfl, law_post laidOut (by kernel_rfl) rfl Try.underlying4 rfl rfl hW' hg⟩

theorem iorder_holds : Rows.IdsOrderSaid :=
  OpenClaim.holds_of_wide 6 Try.f6 rfl rfl rfl rfl rfl rfl rfl ⟨rfl, rfl, rfl, rfl, rfl⟩ rfl rfl rfl rfl rfl (by kernel_rfl) Try.func6 (by kernel_rfl)
    (of_decide_eq_true (by kernel_rfl)) (by unfold Func.isWrapper; rw [if_neg (of_decide_eq_false (by kernel_rfl))]; exact ⟨rfl, rfl⟩)
    (fun os started H enc _ => iorder_lifted os started H enc)
#print axioms iorder_holds
end Go.Proofs.Ytpmpngdejikhhaa
