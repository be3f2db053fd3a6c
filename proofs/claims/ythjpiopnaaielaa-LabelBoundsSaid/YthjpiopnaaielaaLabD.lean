/-
  A join is the least label that both are at or below, a meet the greatest one that is at or below both: the statement LabelBounds, for every three labels.
-/
import Derived.Test.YthjpiopnaaielaaLabK
namespace Go.Proofs.Ythjpiopnaaielaa
open Go.ChangeShapes Go.WideShapes Go.ChangeAt Go.RowKit Go.Joins
set_option linter.unusedVariables false

set_option maxHeartbeats 2000000 in
theorem bounds_walk (a0 a1 b0 b1 c0 c1 : Int) (ha : Lab a0 a1) (hb : Lab b0 b1) (hc : Lab c0 c1) (w : World) :
    Calls Try.prog 6 #[.agg #[.int .u8 a0, .int .u32 a1], .agg #[.int .u8 b0, .int .u32 b1], .agg #[.int .u8 c0, .int .u32 c1]] w fun e w' =>
      e = .returned (.bool true) ∧ Below w.heap.size w w' := by
  obtain ⟨x0, x1, y0, y1, k, e1, e2, e3, e4, e5, key⟩ : ∃ x0 x1 y0 y1 k : Int, sel (ck2 a0 b0) (mx a0 b0) = x0 ∧ sel (ck2 a0 b0) (orr a1 b1) = x1 ∧ sel (ck2 a0 b0) (mn a0 b0) = y0 ∧ sel (ck2 a0 b0) (an a1 b1) = y1 ∧ ck2 a0 b0 = k ∧
      ((k = 8 ∧ x0 = 0 ∧ x1 = 0 ∧ y0 = 0 ∧ y1 = 0 ∧ (ck a0 = 8 ∨ (ck a0 = 0 ∧ ck b0 = 8))) ∨
       (k = 0 ∧ leqB x0 x1 c0 c1 = (leqB a0 a1 c0 c1 && leqB b0 b1 c0 c1) ∧ leqB c0 c1 y0 y1 = (leqB c0 c1 a0 a1 && leqB c0 c1 b0 b1) ∧
        leqB a0 a1 x0 x1 = true ∧ leqB b0 b1 x0 x1 = true ∧ leqB y0 y1 a0 a1 = true ∧ leqB y0 y1 b0 b1 = true ∧ (x0 == b0 && x1 == b1) = leqB a0 a1 b0 b1 ∧ (y0 == a0 && y1 == a1) = leqB a0 a1 b0 b1)) := by
    refine ⟨_, _, _, _, _, rfl, rfl, rfl, rfl, rfl, ?_⟩
    by_cases h1 : a0 ≤ 15
    · by_cases h2 : b0 ≤ 15
      · have h3 : ck2 a0 b0 = 0 := by simp [ck2, ck, h1, h2]
        simp only [h3, sel, if_true]
        exact .inr ⟨trivial, leq_join ha hb hc, leq_meet ha hb hc, leq_join_left ha hb, leq_join_right ha hb, leq_meet_left ha hb, leq_meet_right ha hb, join_eq ha hb, meet_eq⟩
      · exact .inl (by simp [ck2, ck, sel, h1, h2])
    · exact .inl (by simp [ck2, ck, sel, h1])
  clear ha hb hc
  have E1 := hid e1
  have E2 := hid e2
  have E3 := hid e3
  have E4 := hid e4
  have E5 := hid e5
  have KEY := hid key
  clear e1 e2 e3 e4 e5 key
  go_enter Try.func6, Try.ntmps6
  go_wp2_with fail
  generalize hW : ((w.alloc _).alloc _).alloc _ = W
  have hb : Below w.heap.size w W := by subst hW; go_grown
  have z : w.heap.size + 1 + 1 < W.heap.size := by subst hW; simp
  have k1 : W.cell? ⟨w.heap.size, 0, none⟩ = some (.int .u8 a0) := by subst hW; simp [go_sem]
  have k2 : W.cell? ⟨w.heap.size, 1, none⟩ = some (.int .u32 a1) := by subst hW; simp [go_sem]
  have k3 : W.cell? ⟨w.heap.size + 1, 0, none⟩ = some (.int .u8 b0) := by subst hW; simp [go_sem]
  have k4 : W.cell? ⟨w.heap.size + 1, 1, none⟩ = some (.int .u32 b1) := by subst hW; simp [go_sem]
  have k5 : W.cell? ⟨w.heap.size + 1 + 1, 0, none⟩ = some (.int .u8 c0) := by subst hW; simp [go_sem]
  have k6 : W.cell? ⟨w.heap.size + 1 + 1, 1, none⟩ = some (.int .u32 c1) := by subst hW; simp [go_sem]
  clear hW
  go_call alive_any _ as e w1 ⟨rfl, b1⟩
  have z1 := b1.size
  replace hb := hb.trans (b1.mono hb.size)
  replace k1 := keep b1 k1
  replace k2 := keep b1 k2
  replace k3 := keep b1 k3
  replace k4 := keep b1 k4
  replace k5 := keep b1 k5
  replace k6 := keep b1 k6
  clear b1
  go_wp2_with fail
  go_call join_of a0 a1 b0 b1 x0 x1 k _ E1.out E2.out E5.out as e w2 ⟨rfl, b2⟩
  have z2 := b2.size
  replace hb := hb.trans (b2.mono hb.size)
  replace k1 := keep b2 k1
  replace k2 := keep b2 k2
  replace k3 := keep b2 k3
  replace k4 := keep b2 k4
  replace k5 := keep b2 k5
  replace k6 := keep b2 k6
  clear b2
  have m1 := keepa k1
  have m2 := keepa k2
  have m3 := keepa k3
  have m4 := keepa k4
  have m5 := keepa k5
  have m6 := keepa k6
  go_wp2_with fail
  clear m1 m2 m3 m4 m5 m6
  generalize hV : w2.alloc _ = V
  replace hb : Below w.heap.size w V := by subst hV; exact hb.alloc (by omega) _
  have z3 : w2.heap.size + 1 ≤ V.heap.size := by subst hV; simp
  replace k1 : V.cell? ⟨w.heap.size, 0, none⟩ = some (.int .u8 a0) := by subst hV; exact keepa k1 _
  replace k2 : V.cell? ⟨w.heap.size, 1, none⟩ = some (.int .u32 a1) := by subst hV; exact keepa k2 _
  replace k3 : V.cell? ⟨w.heap.size + 1, 0, none⟩ = some (.int .u8 b0) := by subst hV; exact keepa k3 _
  replace k4 : V.cell? ⟨w.heap.size + 1, 1, none⟩ = some (.int .u32 b1) := by subst hV; exact keepa k4 _
  replace k5 : V.cell? ⟨w.heap.size + 1 + 1, 0, none⟩ = some (.int .u8 c0) := by subst hV; exact keepa k5 _
  replace k6 : V.cell? ⟨w.heap.size + 1 + 1, 1, none⟩ = some (.int .u32 c1) := by subst hV; exact keepa k6 _
  have k7 : V.cell? ⟨w2.heap.size, 0, none⟩ = some (.int .u8 x0) := by subst hV; simp
  have k8 : V.cell? ⟨w2.heap.size, 1, none⟩ = some (.int .u32 x1) := by subst hV; simp
  clear hV
  go_call meet_of a0 a1 b0 b1 y0 y1 k _ E3.out E4.out E5.out as e w3 ⟨rfl, b3⟩
  have z4 := b3.size
  replace hb := hb.trans (b3.mono hb.size)
  replace k1 := keep b3 k1
  replace k2 := keep b3 k2
  replace k3 := keep b3 k3
  replace k4 := keep b3 k4
  replace k5 := keep b3 k5
  replace k6 := keep b3 k6
  replace k7 := keep b3 k7
  replace k8 := keep b3 k8
  clear b3
  have m1 := keepa k1
  have m2 := keepa k2
  have m3 := keepa k3
  have m4 := keepa k4
  have m5 := keepa k5
  have m6 := keepa k6
  have m7 := keepa k7
  have m8 := keepa k8
  have hE := eql_label
  have key := KEY.out
  clear KEY E1 E2 E3 E4 E5
  rcases key with ⟨rfl, rfl, rfl, rfl, rfl, h1⟩ | ⟨rfl, h1, h2, h3, h4, h5, h6, h7, h8⟩
  · have H1 := hid h1
    clear h1
    go_wp2_with fail
    clear m1 m2 m3 m4 m5 m6 m7 m8
    generalize hU : w3.alloc _ = U
    replace hb : Below w.heap.size w U := by subst hU; exact hb.alloc (by omega) _
    replace k1 : U.cell? ⟨w.heap.size, 0, none⟩ = some (.int .u8 a0) := by subst hU; exact keepa k1 _
    replace k2 : U.cell? ⟨w.heap.size, 1, none⟩ = some (.int .u32 a1) := by subst hU; exact keepa k2 _
    replace k3 : U.cell? ⟨w.heap.size + 1, 0, none⟩ = some (.int .u8 b0) := by subst hU; exact keepa k3 _
    replace k4 : U.cell? ⟨w.heap.size + 1, 1, none⟩ = some (.int .u32 b1) := by subst hU; exact keepa k4 _
    replace k5 : U.cell? ⟨w.heap.size + 1 + 1, 0, none⟩ = some (.int .u8 c0) := by subst hU; exact keepa k5 _
    replace k6 : U.cell? ⟨w.heap.size + 1 + 1, 1, none⟩ = some (.int .u32 c1) := by subst hU; exact keepa k6 _
    clear hU k7 k8
    rcases H1.out with h1 | ⟨h1, h2⟩
    · go_call check_of a0 a1 8 _ h1 as e w4 ⟨rfl, b4⟩
      replace hb := hb.trans (b4.mono hb.size)
      go_wp2_with fail
      go_ret
      exact ⟨rfl, hb⟩
    · go_call check_of a0 a1 0 _ h1 as e w4 ⟨rfl, b4⟩
      replace hb := hb.trans (b4.mono hb.size)
      replace k3 := keep b4 k3
      replace k4 := keep b4 k4
      go_wp2_with fail
      go_call check_of b0 b1 8 _ h2 as e w5 ⟨rfl, b5⟩
      replace hb := hb.trans (b5.mono hb.size)
      go_wp2_with fail
      go_ret
      exact ⟨rfl, hb⟩
  · have H1 := hid h1
    have H2 := hid h2
    have H3 := hid h3
    have H4 := hid h4
    have H5 := hid h5
    have H6 := hid h6
    have H7 := hid h7
    have H8 := hid h8
    clear h1 h2 h3 h4 h5 h6 h7 h8
    go_wp2_with fail
    clear m1 m2 m3 m4 m5 m6 m7 m8
    generalize hU : w3.alloc _ = U
    replace hb : Below w.heap.size w U := by subst hU; exact hb.alloc (by omega) _
    replace k1 : U.cell? ⟨w.heap.size, 0, none⟩ = some (.int .u8 a0) := by subst hU; exact keepa k1 _
    replace k2 : U.cell? ⟨w.heap.size, 1, none⟩ = some (.int .u32 a1) := by subst hU; exact keepa k2 _
    replace k3 : U.cell? ⟨w.heap.size + 1, 0, none⟩ = some (.int .u8 b0) := by subst hU; exact keepa k3 _
    replace k4 : U.cell? ⟨w.heap.size + 1, 1, none⟩ = some (.int .u32 b1) := by subst hU; exact keepa k4 _
    replace k5 : U.cell? ⟨w.heap.size + 1 + 1, 0, none⟩ = some (.int .u8 c0) := by subst hU; exact keepa k5 _
    replace k6 : U.cell? ⟨w.heap.size + 1 + 1, 1, none⟩ = some (.int .u32 c1) := by subst hU; exact keepa k6 _
    replace k7 : U.cell? ⟨w2.heap.size, 0, none⟩ = some (.int .u8 x0) := by subst hU; exact keepa k7 _
    replace k8 : U.cell? ⟨w2.heap.size, 1, none⟩ = some (.int .u32 x1) := by subst hU; exact keepa k8 _
    have k9 : U.cell? ⟨w3.heap.size, 0, none⟩ = some (.int .u8 y0) := by subst hU; simp
    have k10 : U.cell? ⟨w3.heap.size, 1, none⟩ = some (.int .u32 y1) := by subst hU; simp
    clear hU
    have key2 : ((leqB a0 a1 c0 c1 = true ∧ ∃ b, leqB x0 x1 c0 c1 = b ∧ leqB b0 b1 c0 c1 = b) ∨ (leqB a0 a1 c0 c1 = false ∧ leqB x0 x1 c0 c1 = false)) ∧
        ((leqB c0 c1 a0 a1 = true ∧ ∃ b, leqB c0 c1 y0 y1 = b ∧ leqB c0 c1 b0 b1 = b) ∨ (leqB c0 c1 a0 a1 = false ∧ leqB c0 c1 y0 y1 = false)) := by
      rw [H1.out, H2.out]
      cases leqB a0 a1 c0 c1 <;> cases leqB c0 c1 a0 a1 <;> simp
    have z9 := hb.size
    rcases key2 with ⟨⟨g1, b, g2, g3⟩ | ⟨g1, g2⟩, ⟨g4, c, g5, g6⟩ | ⟨g4, g5⟩⟩
    all_goals (try cases b)
    all_goals (try cases c)
    all_goals
      go_wp2_with (refine wp_region_past (by kernel_rfl) (by kernel_rfl) ?_; (have q1 := Past.all k1); (have q2 := Past.all k2); (have q3 := Past.all k3); (have q4 := Past.all k4); (have q5 := Past.all k5); (have q6 := Past.all k6); (have q7 := Past.all k7); (have q8 := Past.all k8); (have q9 := Past.all k9); (have q10 := Past.all k10); (repeat (go_big_quiet_step (first | exact quiet_below (leq_of _ _ _ _ _ true (by assumption)) | exact quiet_below (leq_of _ _ _ _ _ false (by assumption)) | exact quiet_below (leq_any _ _ _ _ _) | exact quiet_below (check_of _ _ _ _ (by assumption))))); (refine wpQuiet_nil ?_); (rintro w2 ⟨⟨_, hx⟩, rfl⟩); (replace hb := hb.trans (hx.mono hb.size)); (replace k1 := keep hx k1); (replace k2 := keep hx k2); (replace k3 := keep hx k3); (replace k4 := keep hx k4); (replace k5 := keep hx k5); (replace k6 := keep hx k6); (replace k7 := keep hx k7); (replace k8 := keep hx k8); (replace k9 := keep hx k9); (replace k10 := keep hx k10); (clear q1 q2 q3 q4 q5 q6 q7 q8 q9 q10 hx))
    all_goals
      clear g1 g2 g4 g5
      have h3 := H3.out
      have h4 := H4.out
      have h5 := H5.out
      have h6 := H6.out
      have h7 := H7.out
      have h8 := H8.out
      go_wp2_with (refine wp_region_past (by kernel_rfl) (by kernel_rfl) ?_; (have q1 := Past.all k1); (have q2 := Past.all k2); (have q3 := Past.all k3); (have q4 := Past.all k4); (have q5 := Past.all k5); (have q6 := Past.all k6); (have q7 := Past.all k7); (have q8 := Past.all k8); (have q9 := Past.all k9); (have q10 := Past.all k10); (repeat (go_big_quiet_step (first | exact quiet_below (leq_of _ _ _ _ _ true (by assumption)) | exact quiet_below (leq_of _ _ _ _ _ false (by assumption)) | exact quiet_below (leq_any _ _ _ _ _) | exact quiet_below (check_of _ _ _ _ (by assumption))))); (refine wpQuiet_nil ?_); (rintro w2 ⟨⟨_, hx⟩, rfl⟩); (replace hb := hb.trans (hx.mono hb.size)); (replace k1 := keep hx k1); (replace k2 := keep hx k2); (replace k3 := keep hx k3); (replace k4 := keep hx k4); (replace k5 := keep hx k5); (replace k6 := keep hx k6); (replace k7 := keep hx k7); (replace k8 := keep hx k8); (replace k9 := keep hx k9); (replace k10 := keep hx k10); (clear q1 q2 q3 q4 q5 q6 q7 q8 q9 q10 hx))
      go_ret
      exact ⟨rfl, hb⟩

set_option maxRecDepth 100000 in
theorem bounds_lifted (os : Os) (started : os.Started) (H : Type) (enc : TypeId × Value → H) :
    ReturnsInHanded {} Try.checked os 6 .any (Rows.labelBoundsSpec.pre6 enc Try.prog Try.f6 Rows.labelBoundsRow.domain false) (Rows.labelBoundsSpec.post enc Try.prog Try.f6 false true false false) := by
  refine returnsInHanded_of_change (C := Try.checked) own started (by kernel_rfl) Try.func6
    (ChangeSpec.witness6 (enc := enc) (C := Try.checked) false ⟨#[], #[.agg #[.int .u8 0, .int .u32 0], .agg #[.int .u8 0, .int .u32 0], .agg #[.int .u8 0, .int .u32 0]], []⟩ 8 (by kernel_rfl) (by kernel_rfl) (by kernel_rfl) (by kernel_rfl)) ?_
  intro W base args ds gs before hval0 hW _ _
  have hval : ∀ (j : Nat) t v, Try.f6.params[j]? = some t → args[j]? = some v → Value.okWide Try.prog W .any base t v := hval0
  have hW' := hW
  obtain ⟨p, q, hA0, hV, rfl, _, _⟩ := hW
  have hA : DataW.TrodAll enc Try.prog W 0 (fun _ => true) true Try.f6.params.toList args.toList ds p := hA0
  rw [Try.params6] at hA hval
  obtain ⟨v0, v1, v2, d0, d1, d2, p0, p1, p2, rfl, rfl, rfl, h0, h1, h2⟩ := trodAll_three hA
  obtain ⟨rfl, rfl⟩ := trodVars_none hV
  obtain ⟨a0, a1, rfl, ha⟩ := open_label (hval 0 _ v0 rfl rfl) h0
  obtain ⟨b0, b1, rfl, hb⟩ := open_label (hval 1 _ v1 rfl rfl) h1
  obtain ⟨c0, c1, rfl, hc⟩ := open_label (hval 2 _ v2 rfl rfl) h2
  refine (bounds_walk a0 a1 b0 b1 c0 c1 ha hb hc W).mono fun e W' ⟨he, hg⟩ => ?_
  subst he
  exact ⟨_, rfl, law_post laidOut (by kernel_rfl) rfl Try.underlying4 rfl rfl hW' hg⟩

theorem bounds_holds : Rows.LabelBoundsSaid :=
  OpenClaim.holds_of_wide 6 Try.f6 rfl rfl rfl rfl rfl rfl rfl ⟨rfl, rfl, rfl, rfl, rfl⟩ rfl rfl rfl rfl rfl (by kernel_rfl) Try.func6 (by kernel_rfl)
    (of_decide_eq_true (by kernel_rfl)) (by unfold Func.isWrapper; rw [if_neg (of_decide_eq_false (by kernel_rfl))]; exact ⟨rfl, rfl⟩)
    (fun os started H enc _ => bounds_lifted os started H enc)
#print axioms bounds_holds
end Go.Proofs.Ythjpiopnaaielaa
