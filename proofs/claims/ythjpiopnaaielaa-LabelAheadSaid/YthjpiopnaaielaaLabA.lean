/-
  Of two unlike labels just one is ahead, what is ahead of one that is ahead is ahead, and what is at or below another one, and not it, is ahead of it: the statement LabelAhead, for every three labels.
-/
import Derived.Test.YthjpiopnaaielaaLabK
namespace Go.Proofs.Ythjpiopnaaielaa
open Go.ChangeShapes Go.WideShapes Go.ChangeAt Go.RowKit Go.Joins
set_option linter.unusedVariables false

theorem aheadB_iff (l c l' c' : Int) : aheadB l c l' c' = true ↔ l < l' ∨ l = l' ∧ c < c' := by
  unfold aheadB; split <;> simp <;> omega
theorem aheadB_not (l c l' c' : Int) : aheadB l c l' c' = false ↔ ¬ (l < l' ∨ l = l' ∧ c < c') := by
  rw [← aheadB_iff]; simp

set_option maxHeartbeats 1000000 in
theorem ahead_walk (a0 a1 b0 b1 c0 c1 : Int) (ha : Lab a0 a1) (hb : Lab b0 b1) (_hc : Lab c0 c1) (w : World) :
    Calls Try.prog 7 #[.agg #[.int .u8 a0, .int .u32 a1], .agg #[.int .u8 b0, .int .u32 b1], .agg #[.int .u8 c0, .int .u32 c1]] w fun e w' =>
      e = .returned (.bool true) ∧ Below w.heap.size w w' := by
  have key : (aheadB a0 a1 b0 b1 = true ∧ aheadB b0 b1 a0 a1 = false ∧ (a0 == b0 && a1 == b1) = false ∧ (aheadB b0 b1 c0 c1 = false ∨ (aheadB b0 b1 c0 c1 = true ∧ aheadB a0 a1 c0 c1 = true)) ∧ (leqB a0 a1 b0 b1 = true ∨ leqB a0 a1 b0 b1 = false)) ∨
      (aheadB a0 a1 b0 b1 = false ∧ aheadB b0 b1 a0 a1 = true ∧ (a0 == b0 && a1 == b1) = false ∧ leqB a0 a1 b0 b1 = false) ∨
      (aheadB a0 a1 b0 b1 = false ∧ aheadB b0 b1 a0 a1 = false ∧ (a0 == b0 && a1 == b1) = true) := by
    have hl : leqB a0 a1 b0 b1 = true → a0 ≤ b0 ∧ a1 ≤ b1 := fun h => by
      obtain ⟨x, rfl, hx⟩ := nat_of ha.c0 ha.c1
      obtain ⟨y, rfl, hy⟩ := nat_of hb.c0 hb.c1
      have h1 := (leqB_nat a0 b0 x y hx hy).1 h
      have h2 : x &&& y ≤ y := Nat.and_le_right
      omega
    rcases Int.lt_trichotomy a0 b0 with h | h | h
    · refine .inl ⟨(aheadB_iff _ _ _ _).2 (.inl h), (aheadB_not _ _ _ _).2 (by omega), by simp; omega, ?_, by cases leqB a0 a1 b0 b1 <;> simp⟩
      cases h2 : aheadB b0 b1 c0 c1
      · exact .inl rfl
      · have h3 := (aheadB_iff _ _ _ _).1 h2
        exact .inr ⟨rfl, (aheadB_iff _ _ _ _).2 (by omega)⟩
    · rcases Int.lt_trichotomy a1 b1 with g | g | g
      · refine .inl ⟨(aheadB_iff _ _ _ _).2 (.inr ⟨h, g⟩), (aheadB_not _ _ _ _).2 (by omega), by simp; omega, ?_, by cases leqB a0 a1 b0 b1 <;> simp⟩
        cases h2 : aheadB b0 b1 c0 c1
        · exact .inl rfl
        · have h3 := (aheadB_iff _ _ _ _).1 h2
          exact .inr ⟨rfl, (aheadB_iff _ _ _ _).2 (by omega)⟩
      · exact .inr (.inr ⟨(aheadB_not _ _ _ _).2 (by omega), (aheadB_not _ _ _ _).2 (by omega), by simp [h, g]⟩)
      · refine .inr (.inl ⟨(aheadB_not _ _ _ _).2 (by omega), (aheadB_iff _ _ _ _).2 (by omega), by simp; omega, ?_⟩)
        cases h2 : leqB a0 a1 b0 b1
        · rfl
        · have := hl h2; omega
    · refine .inr (.inl ⟨(aheadB_not _ _ _ _).2 (by omega), (aheadB_iff _ _ _ _).2 (by omega), by simp; omega, ?_⟩)
      cases h2 : leqB a0 a1 b0 b1
      · rfl
      · have := hl h2; omega
  clear ha hb
  go_enter Try.func7, Try.ntmps7
  go_wp2_with fail
  generalize hW : ((w.alloc _).alloc _).alloc _ = W
  have hb : Below w.heap.size w W := by subst hW; go_grown
  have k1 : W.cell? ⟨w.heap.size, 0, none⟩ = some (.int .u8 a0) := by subst hW; simp [go_sem]
  have k2 : W.cell? ⟨w.heap.size, 1, none⟩ = some (.int .u32 a1) := by subst hW; simp [go_sem]
  have k3 : W.cell? ⟨w.heap.size + 1, 0, none⟩ = some (.int .u8 b0) := by subst hW; simp [go_sem]
  have k4 : W.cell? ⟨w.heap.size + 1, 1, none⟩ = some (.int .u32 b1) := by subst hW; simp [go_sem]
  have k5 : W.cell? ⟨w.heap.size + 1 + 1, 0, none⟩ = some (.int .u8 c0) := by subst hW; simp [go_sem]
  have k6 : W.cell? ⟨w.heap.size + 1 + 1, 1, none⟩ = some (.int .u32 c1) := by subst hW; simp [go_sem]
  clear hW
  go_call alive_any _ as e w1 ⟨rfl, b1⟩
  replace hb := hb.trans (b1.mono hb.size)
  replace k1 := keep b1 k1
  replace k2 := keep b1 k2
  replace k3 := keep b1 k3
  replace k4 := keep b1 k4
  replace k5 := keep b1 k5
  replace k6 := keep b1 k6
  clear b1
  have z := hb.size
  have hE := neq_label
  have hE' := eql_label
  rcases key with ⟨h1, h2, h3, h4 | ⟨h4, h5⟩, h6 | h6⟩ | ⟨h1, h2, h3, h4⟩ | ⟨h1, h2, h3⟩
  all_goals
    go_wp2_with ((first | refine wpList_past ?_ | refine wp_region_past (by kernel_rfl) (by kernel_rfl) ?_); (have q1 := Past.all k1); (have q2 := Past.all k2); (have q3 := Past.all k3); (have q4 := Past.all k4); (have q5 := Past.all k5); (have q6 := Past.all k6); (repeat (go_big_quiet_step (first | exact quiet_below (leq_of _ _ _ _ _ true (by assumption)) | exact quiet_below (leq_of _ _ _ _ _ false (by assumption)) | exact quiet_below (ahead_of _ _ _ _ _ true (by assumption)) | exact quiet_below (ahead_of _ _ _ _ _ false (by assumption))))); (refine wpQuiet_nil ?_); (rintro w2 ⟨⟨_, hx⟩, rfl⟩); (replace hb := hb.trans (hx.mono hb.size)); (replace k1 := keep hx k1); (replace k2 := keep hx k2); (replace k3 := keep hx k3); (replace k4 := keep hx k4); (replace k5 := keep hx k5); (replace k6 := keep hx k6); (clear q1 q2 q3 q4 q5 q6 hx))
    go_ret
    exact ⟨rfl, hb⟩

set_option maxRecDepth 100000 in
theorem ahead_lifted (os : Os) (started : os.Started) (H : Type) (enc : TypeId × Value → H) :
    ReturnsInHanded {} Try.checked os 7 .any (Rows.labelAheadSpec.pre6 enc Try.prog Try.f7 Rows.labelAheadRow.domain false) (Rows.labelAheadSpec.post enc Try.prog Try.f7 false true false false) := by
  refine returnsInHanded_of_change (C := Try.checked) own started (by kernel_rfl) Try.func7
    (ChangeSpec.witness6 (enc := enc) (C := Try.checked) false ⟨#[], #[.agg #[.int .u8 0, .int .u32 0], .agg #[.int .u8 0, .int .u32 0], .agg #[.int .u8 0, .int .u32 0]], []⟩ 8 (by kernel_rfl) (by kernel_rfl) (by kernel_rfl) (by kernel_rfl)) ?_
  intro W base args ds gs before hval0 hW _ _
  have hval : ∀ (j : Nat) t v, Try.f7.params[j]? = some t → args[j]? = some v → Value.okWide Try.prog W .any base t v := hval0
  have hW' := hW
  obtain ⟨p, q, hA0, hV, rfl, _, _⟩ := hW
  have hA : DataW.TrodAll enc Try.prog W 0 (fun _ => true) true Try.f7.params.toList args.toList ds p := hA0
  rw [Try.params7] at hA hval
  obtain ⟨v0, v1, v2, d0, d1, d2, p0, p1, p2, rfl, rfl, rfl, h0, h1, h2⟩ := trodAll_three hA
  obtain ⟨rfl, rfl⟩ := trodVars_none hV
  obtain ⟨a0, a1, rfl, ha⟩ := open_label (hval 0 _ v0 rfl rfl) h0
  obtain ⟨b0, b1, rfl, hb⟩ := open_label (hval 1 _ v1 rfl rfl) h1
  obtain ⟨c0, c1, rfl, hc⟩ := open_label (hval 2 _ v2 rfl rfl) h2
  refine (ahead_walk a0 a1 b0 b1 c0 c1 ha hb hc W).mono fun e W' ⟨he, hg⟩ => ?_
  subst he
  exact ⟨_, rfl, law_post laidOut (by kernel_rfl) rfl Try.underlying4 rfl rfl hW' hg⟩

theorem ahead_holds : Rows.LabelAheadSaid :=
  OpenClaim.holds_of_wide 7 Try.f7 rfl rfl rfl rfl rfl rfl rfl ⟨rfl, rfl, rfl, rfl, rfl⟩ rfl rfl rfl rfl rfl (by kernel_rfl) Try.func7 (by kernel_rfl)
    (of_decide_eq_true (by kernel_rfl)) (by unfold Func.isWrapper; rw [if_neg (of_decide_eq_false (by kernel_rfl))]; exact ⟨rfl, rfl⟩)
    (fun os started H enc _ => ahead_lifted os started H enc)
#print axioms ahead_holds
end Go.Proofs.Ythjpiopnaaielaa
