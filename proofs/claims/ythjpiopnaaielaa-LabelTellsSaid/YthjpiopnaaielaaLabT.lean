/-
  Labels are checked, held against each other, joined and met as the document says: the statement LabelTells, for every two labels.
-/
import Derived.Test.YthjpiopnaaielaaLabS
namespace Go.Proofs.Ythjpiopnaaielaa
open Go.ChangeShapes Go.WideShapes Go.ChangeAt Go.RowKit Go.Joins
set_option linter.unusedVariables false

set_option maxHeartbeats 2000000 in
theorem tells_walk (a0 a1 b0 b1 : Int) (ha : Lab a0 a1) (hb : Lab b0 b1) (w : World) :
    Calls Try.prog 4 #[.agg #[.int .u8 a0, .int .u32 a1], .agg #[.int .u8 b0, .int .u32 b1]] w fun e w' =>
      e = .returned (.bool true) ∧ Below w.heap.size w w' := by
  have HA := hid ha
  have HB := hid hb
  clear ha hb
  go_enter Try.func4, Try.ntmps4
  go_wp2_with fail
  generalize hW : (w.alloc _).alloc _ = W
  have hb : Below w.heap.size w W := by subst hW; go_grown
  have z : w.heap.size + 1 < W.heap.size := by subst hW; simp
  have k1 : W.cell? ⟨w.heap.size, 0, none⟩ = some (.int .u8 a0) := by subst hW; simp [go_sem]
  have k2 : W.cell? ⟨w.heap.size, 1, none⟩ = some (.int .u32 a1) := by subst hW; simp [go_sem]
  have k3 : W.cell? ⟨w.heap.size + 1, 0, none⟩ = some (.int .u8 b0) := by subst hW; simp [go_sem]
  have k4 : W.cell? ⟨w.heap.size + 1, 1, none⟩ = some (.int .u32 b1) := by subst hW; simp [go_sem]
  clear hW
  refine (join_any a0 a1 b0 b1 _).mono ?_
  rintro e v0 ⟨rfl, b0⟩
  have z0 := b0.size
  replace hb := hb.trans (b0.mono hb.size)
  replace k1 := keep b0 k1
  replace k2 := keep b0 k2
  replace k3 := keep b0 k3
  replace k4 := keep b0 k4
  clear b0
  have mk1 := keepa k1
  have mk2 := keepa k2
  have mk3 := keepa k3
  have mk4 := keepa k4
  go_wp2_with fail
  clear mk1 mk2 mk3 mk4
  generalize hV : World.alloc v0 _ = u0
  replace hb : Below w.heap.size w u0 := by subst hV; exact hb.alloc (by omega) _
  have y0 : v0.heap.size + 1 ≤ u0.heap.size := by subst hV; simp
  replace k1 : u0.cell? ⟨w.heap.size, 0, none⟩ = some (.int .u8 a0) := by subst hV; exact keepa k1 _
  replace k2 : u0.cell? ⟨w.heap.size, 1, none⟩ = some (.int .u32 a1) := by subst hV; exact keepa k2 _
  replace k3 : u0.cell? ⟨w.heap.size + 1, 0, none⟩ = some (.int .u8 b0) := by subst hV; exact keepa k3 _
  replace k4 : u0.cell? ⟨w.heap.size + 1, 1, none⟩ = some (.int .u32 b1) := by subst hV; exact keepa k4 _
  have k5 : u0.cell? ⟨v0.heap.size, 0, none⟩ = some (.int .u8 (sel (ck2 a0 b0) (mx a0 b0))) := by subst hV; simp
  have k6 : u0.cell? ⟨v0.heap.size, 1, none⟩ = some (.int .u32 (sel (ck2 a0 b0) (orr a1 b1))) := by subst hV; simp
  clear hV
  refine (rJoin_any a0 a1 b0 b1 HA.out HB.out _).mono ?_
  rintro e v1 ⟨rfl, b1⟩
  have z1 := b1.size
  replace hb := hb.trans (b1.mono hb.size)
  replace k1 := keep b1 k1
  replace k2 := keep b1 k2
  replace k3 := keep b1 k3
  replace k4 := keep b1 k4
  replace k5 := keep b1 k5
  replace k6 := keep b1 k6
  clear b1
  have mk1 := keepa k1
  have mk2 := keepa k2
  have mk3 := keepa k3
  have mk4 := keepa k4
  have mk5 := keepa k5
  have mk6 := keepa k6
  go_wp2_with fail
  clear mk1 mk2 mk3 mk4 mk5 mk6
  generalize hV : World.alloc v1 _ = u1
  replace hb : Below w.heap.size w u1 := by subst hV; exact hb.alloc (by omega) _
  have y1 : v1.heap.size + 1 ≤ u1.heap.size := by subst hV; simp
  replace k1 : u1.cell? ⟨w.heap.size, 0, none⟩ = some (.int .u8 a0) := by subst hV; exact keepa k1 _
  replace k2 : u1.cell? ⟨w.heap.size, 1, none⟩ = some (.int .u32 a1) := by subst hV; exact keepa k2 _
  replace k3 : u1.cell? ⟨w.heap.size + 1, 0, none⟩ = some (.int .u8 b0) := by subst hV; exact keepa k3 _
  replace k4 : u1.cell? ⟨w.heap.size + 1, 1, none⟩ = some (.int .u32 b1) := by subst hV; exact keepa k4 _
  replace k5 : u1.cell? ⟨v0.heap.size, 0, none⟩ = some (.int .u8 (sel (ck2 a0 b0) (mx a0 b0))) := by subst hV; exact keepa k5 _
  replace k6 : u1.cell? ⟨v0.heap.size, 1, none⟩ = some (.int .u32 (sel (ck2 a0 b0) (orr a1 b1))) := by subst hV; exact keepa k6 _
  have k7 : u1.cell? ⟨v1.heap.size, 0, none⟩ = some (.int .u8 (sel (ck2 a0 b0) (mx a0 b0))) := by subst hV; simp
  have k8 : u1.cell? ⟨v1.heap.size, 1, none⟩ = some (.int .u32 (sel (ck2 a0 b0) (orr a1 b1))) := by subst hV; simp
  clear hV
  refine (meet_any a0 a1 b0 b1 _).mono ?_
  rintro e v2 ⟨rfl, b2⟩
  have z2 := b2.size
  replace hb := hb.trans (b2.mono hb.size)
  replace k1 := keep b2 k1
  replace k2 := keep b2 k2
  replace k3 := keep b2 k3
  replace k4 := keep b2 k4
  replace k5 := keep b2 k5
  replace k6 := keep b2 k6
  replace k7 := keep b2 k7
  replace k8 := keep b2 k8
  clear b2
  have mk1 := keepa k1
  have mk2 := keepa k2
  have mk3 := keepa k3
  have mk4 := keepa k4
  have mk5 := keepa k5
  have mk6 := keepa k6
  have mk7 := keepa k7
  have mk8 := keepa k8
  go_wp2_with fail
  clear mk1 mk2 mk3 mk4 mk5 mk6 mk7 mk8
  generalize hV : World.alloc v2 _ = u2
  replace hb : Below w.heap.size w u2 := by subst hV; exact hb.alloc (by omega) _
  have y2 : v2.heap.size + 1 ≤ u2.heap.size := by subst hV; simp
  replace k1 : u2.cell? ⟨w.heap.size, 0, none⟩ = some (.int .u8 a0) := by subst hV; exact keepa k1 _
  replace k2 : u2.cell? ⟨w.heap.size, 1, none⟩ = some (.int .u32 a1) := by subst hV; exact keepa k2 _
  replace k3 : u2.cell? ⟨w.heap.size + 1, 0, none⟩ = some (.int .u8 b0) := by subst hV; exact keepa k3 _
  replace k4 : u2.cell? ⟨w.heap.size + 1, 1, none⟩ = some (.int .u32 b1) := by subst hV; exact keepa k4 _
  replace k5 : u2.cell? ⟨v0.heap.size, 0, none⟩ = some (.int .u8 (sel (ck2 a0 b0) (mx a0 b0))) := by subst hV; exact keepa k5 _
  replace k6 : u2.cell? ⟨v0.heap.size, 1, none⟩ = some (.int .u32 (sel (ck2 a0 b0) (orr a1 b1))) := by subst hV; exact keepa k6 _
  replace k7 : u2.cell? ⟨v1.heap.size, 0, none⟩ = some (.int .u8 (sel (ck2 a0 b0) (mx a0 b0))) := by subst hV; exact keepa k7 _
  replace k8 : u2.cell? ⟨v1.heap.size, 1, none⟩ = some (.int .u32 (sel (ck2 a0 b0) (orr a1 b1))) := by subst hV; exact keepa k8 _
  have k9 : u2.cell? ⟨v2.heap.size, 0, none⟩ = some (.int .u8 (sel (ck2 a0 b0) (mn a0 b0))) := by subst hV; simp
  have k10 : u2.cell? ⟨v2.heap.size, 1, none⟩ = some (.int .u32 (sel (ck2 a0 b0) (an a1 b1))) := by subst hV; simp
  clear hV
  refine (rMeet_any a0 a1 b0 b1 HA.out HB.out _).mono ?_
  rintro e v3 ⟨rfl, b3⟩
  have z3 := b3.size
  replace hb := hb.trans (b3.mono hb.size)
  replace k1 := keep b3 k1
  replace k2 := keep b3 k2
  replace k3 := keep b3 k3
  replace k4 := keep b3 k4
  replace k5 := keep b3 k5
  replace k6 := keep b3 k6
  replace k7 := keep b3 k7
  replace k8 := keep b3 k8
  replace k9 := keep b3 k9
  replace k10 := keep b3 k10
  clear b3
  have mk1 := keepa k1
  have mk2 := keepa k2
  have mk3 := keepa k3
  have mk4 := keepa k4
  have mk5 := keepa k5
  have mk6 := keepa k6
  have mk7 := keepa k7
  have mk8 := keepa k8
  have mk9 := keepa k9
  have mk10 := keepa k10
  have hE := eql_label
  go_wp2_with fail
  clear mk1 mk2 mk3 mk4 mk5 mk6 mk7 mk8 mk9 mk10
  generalize hV : World.alloc v3 _ = u3
  replace hb : Below w.heap.size w u3 := by subst hV; exact hb.alloc (by omega) _
  have y3 : v3.heap.size + 1 ≤ u3.heap.size := by subst hV; simp
  replace k1 : u3.cell? ⟨w.heap.size, 0, none⟩ = some (.int .u8 a0) := by subst hV; exact keepa k1 _
  replace k2 : u3.cell? ⟨w.heap.size, 1, none⟩ = some (.int .u32 a1) := by subst hV; exact keepa k2 _
  replace k3 : u3.cell? ⟨w.heap.size + 1, 0, none⟩ = some (.int .u8 b0) := by subst hV; exact keepa k3 _
  replace k4 : u3.cell? ⟨w.heap.size + 1, 1, none⟩ = some (.int .u32 b1) := by subst hV; exact keepa k4 _
  replace k5 : u3.cell? ⟨v0.heap.size, 0, none⟩ = some (.int .u8 (sel (ck2 a0 b0) (mx a0 b0))) := by subst hV; exact keepa k5 _
  replace k6 : u3.cell? ⟨v0.heap.size, 1, none⟩ = some (.int .u32 (sel (ck2 a0 b0) (orr a1 b1))) := by subst hV; exact keepa k6 _
  replace k7 : u3.cell? ⟨v1.heap.size, 0, none⟩ = some (.int .u8 (sel (ck2 a0 b0) (mx a0 b0))) := by subst hV; exact keepa k7 _
  replace k8 : u3.cell? ⟨v1.heap.size, 1, none⟩ = some (.int .u32 (sel (ck2 a0 b0) (orr a1 b1))) := by subst hV; exact keepa k8 _
  replace k9 : u3.cell? ⟨v2.heap.size, 0, none⟩ = some (.int .u8 (sel (ck2 a0 b0) (mn a0 b0))) := by subst hV; exact keepa k9 _
  replace k10 : u3.cell? ⟨v2.heap.size, 1, none⟩ = some (.int .u32 (sel (ck2 a0 b0) (an a1 b1))) := by subst hV; exact keepa k10 _
  have k11 : u3.cell? ⟨v3.heap.size, 0, none⟩ = some (.int .u8 (sel (ck2 a0 b0) (mn a0 b0))) := by subst hV; simp
  have k12 : u3.cell? ⟨v3.heap.size, 1, none⟩ = some (.int .u32 (sel (ck2 a0 b0) (an a1 b1))) := by subst hV; simp
  clear hV
  clear k5 k6 k7 k8 k9 k10 k11 k12
  refine (greatest_any _).mono ?_
  rintro e x0 ⟨rfl, b0⟩
  replace hb := hb.trans (b0.mono hb.size)
  replace k1 := keep b0 k1
  replace k2 := keep b0 k2
  replace k3 := keep b0 k3
  replace k4 := keep b0 k4
  clear b0
  go_wp2_with fail
  refine (rGreatest_any _).mono ?_
  rintro e x1 ⟨rfl, b1⟩
  replace hb := hb.trans (b1.mono hb.size)
  replace k1 := keep b1 k1
  replace k2 := keep b1 k2
  replace k3 := keep b1 k3
  replace k4 := keep b1 k4
  clear b1
  go_wp2_with fail
  refine (least_any _).mono ?_
  rintro e x2 ⟨rfl, b2⟩
  replace hb := hb.trans (b2.mono hb.size)
  replace k1 := keep b2 k1
  replace k2 := keep b2 k2
  replace k3 := keep b2 k3
  replace k4 := keep b2 k4
  clear b2
  go_wp2_with fail
  have q1 := Past.all k1
  have q2 := Past.all k2
  have q3 := Past.all k3
  have q4 := Past.all k4
  refine wp_region_past (by kernel_rfl) (by kernel_rfl) ?_
  repeat (go_big_quiet_step (first
    | (go_at_call 13; exact quiet_below (check_any _ _ _)) | (go_at_call 19; exact quiet_below (rCheck_any _ _ _))
    | (go_at_call 20; exact quiet_below (leq_any _ _ _ _ _)) | (go_at_call 21; exact quiet_below (rLeq_int _ _ _ _ HA.out HB.out _))
    | (go_at_call 12; exact quiet_below (ahead_any _ _ _ _ _)) | (go_at_call 22; exact quiet_below (rAhead_any _ _ _ _ HA.out HB.out _))))
  refine wpQuiet_nil ?_
  rintro w2 ⟨⟨_, hx⟩, rfl⟩
  clear q1 q2 q3 q4
  go_wp2
  go_ret
  exact ⟨rfl, hb.trans (hx.mono hb.size)⟩

set_option maxRecDepth 100000 in
theorem tells_lifted (os : Os) (started : os.Started) (H : Type) (enc : TypeId × Value → H) :
    ReturnsInHanded {} Try.checked os 4 .any (Rows.labelTellsSpec.pre6 enc Try.prog Try.f4 Rows.labelTellsRow.domain false) (Rows.labelTellsSpec.post enc Try.prog Try.f4 false true false false) := by
  refine returnsInHanded_of_change (C := Try.checked) own started (by kernel_rfl) Try.func4
    (ChangeSpec.witness6 (enc := enc) (C := Try.checked) false ⟨#[], #[.agg #[.int .u8 0, .int .u32 0], .agg #[.int .u8 0, .int .u32 0]], []⟩ 8 (by kernel_rfl) (by kernel_rfl) (by kernel_rfl) (by kernel_rfl)) ?_
  intro W base args ds gs before hval0 hW _ _
  have hval : ∀ (j : Nat) t v, Try.f4.params[j]? = some t → args[j]? = some v → Value.okWide Try.prog W .any base t v := hval0
  have hW' := hW
  obtain ⟨p, q, hA0, hV, rfl, _, _⟩ := hW
  have hA : DataW.TrodAll enc Try.prog W 0 (fun _ => true) true Try.f4.params.toList args.toList ds p := hA0
  rw [Try.params4] at hA hval
  obtain ⟨v0, v1, d0, d1, p0, p1, rfl, rfl, rfl, h0, h1⟩ := trodAll_two hA
  obtain ⟨rfl, rfl⟩ := trodVars_none hV
  obtain ⟨a0, a1, rfl, ha⟩ := open_label (hval 0 _ v0 rfl rfl) h0
  obtain ⟨b0, b1, rfl, hb⟩ := open_label (hval 1 _ v1 rfl rfl) h1
  refine (tells_walk a0 a1 b0 b1 ha hb W).mono fun e W' ⟨he, hg⟩ => ?_
  subst he
  exact ⟨_, rfl, law_post laidOut (by kernel_rfl) rfl Try.underlying4 rfl rfl hW' hg⟩

theorem tells_holds : Rows.LabelTellsSaid :=
  OpenClaim.holds_of_wide 4 Try.f4 rfl rfl rfl rfl rfl rfl rfl ⟨rfl, rfl, rfl, rfl, rfl⟩ rfl rfl rfl rfl rfl (by kernel_rfl) Try.func4 (by kernel_rfl)
    (of_decide_eq_true (by kernel_rfl)) (by unfold Func.isWrapper; rw [if_neg (of_decide_eq_false (by kernel_rfl))]; exact ⟨rfl, rfl⟩)
    (fun os started H enc _ => tells_lifted os started H enc)
#print axioms tells_holds
end Go.Proofs.Ythjpiopnaaielaa
