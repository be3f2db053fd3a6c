/-
  may and alive: the chapter's first examples.
-/
import Derived.Test.YtmmjciigbmgloaaPoK
import Derived.Test.YtmmjciigbmgloaaPoS
namespace Go.Proofs.Ytmmjciigbmgloaa
open Go.ChangeShapes Go.WideShapes Go.ChangeAt Go.RowKit Go.Joins
set_option linter.unusedVariables false
set_option linter.unusedSimpArgs false

theorem qt_eq {x : Qt} {a b c d e : Int} (h : x.l = a ∧ x.c = b ∧ x.o = c ∧ x.p = d ∧ x.k = e) : x = ⟨a, b, c, d, e⟩ := by
  obtain ⟨x0, x1, x2, x3, x4⟩ := x
  obtain ⟨rfl, rfl, rfl, rfl, rfl⟩ := h
  rfl
theorem pol_two {w w' : World} {g h : Nat} (hc : OwnC w' w.heap.size (some ⟨g, 0, none⟩) 2 us2) (hq : OwnQ w' w.heap.size (some ⟨h, 0, none⟩) 1 qs2) : Pol w' (some ⟨g, 0, none⟩) 2 2 (some ⟨h, 0, none⟩) 1 1 4 us2 qs2 :=
  ⟨rfl, rfl, hc.rd, hq.rd, by decide, by decide⟩

set_option maxRecDepth 100000 in
set_option maxHeartbeats 800000 in
theorem lmay_of (r : Bool) (u l0 l1 : Int) (hr : Hid ((askB us2 qs2 4 l0 && opensB us2 u l0 l1) = r)) (w : World) :
    Calls Try.prog 29 #[.int .i64 u, .agg #[.int .u8 l0, .int .u32 l1]] w fun e w' => e = .returned (.bool r) ∧ Below w.heap.size w w' := by
  generalize ha : askB us2 qs2 4 l0 = a
  have HA := hid (show (askB us2 qs2 4 l0 && opensB us2 u l0 l1) = r ∧ er (askB us2 qs2 4 l0) = er a from ⟨hr.out, by rw [ha]⟩)
  have HF := hid (show a = false → r = false by intro h; rw [← hr.out, ha, h]; rfl)
  clear ha hr
  go_enter Try.func29, Try.ntmps29
  go_wp2_with fail
  generalize hW : w.alloc _ = W
  have hbW : Below w.heap.size w W := by subst hW; go_grown
  (have t0 : W.cell? ⟨w.heap.size, 0, none⟩ = some (.int .u8 l0) := ((by subst hW; simp [go_sem])); have t1 : W.cell? ⟨w.heap.size, 1, none⟩ = some (.int .u32 l1) := ((by subst hW; simp [go_sem])))
  clear hW
  (have q0 := fun w' (h : Below W.heap.size W w') => keep h t0; have q1 := fun w' (h : Below W.heap.size W w') => keep h t1)
  have S0 : Below W.heap.size W W.drew := (Below.refl _ _).drew
  clear t0 t1
  go_region_held (fun w' => Below W.heap.size W w') (with_reducible (first | assumption))
    (first
      | (go_at_call 8; refine (two_any _).mono ?_; rintro e w2 ⟨g, h, hg, hh, hgh, rfl, hc, hq, b2⟩; have c2 := below_in (w := W) (by assumption) b2)
      | (go_at_call 10; refine (may_of r (er a) _ _ _ _ _ _ _ us2 qs2 u l0 l1 HA _ (pol_two hc hq)).mono ?_; rintro e w3 ⟨rfl, b3⟩; have c3 := below_in (w := W) (by assumption) b3))
  have hB := below_in hbW c3
  clear q0 q1 S0 b2 b3 c2 c3 hc hq
  cases a
  · have e8 : er false = 8 := rfl
    obtain rfl := HF.out rfl
    rw [e8]
    go_wp2
    go_ret
    exact ⟨rfl, hB⟩
  · have e0 : er true = 0 := rfl
    rw [e0]
    go_wp2
    go_ret
    exact ⟨rfl, hB⟩

set_option maxRecDepth 100000 in
set_option maxHeartbeats 1600000 in
theorem alive_any (w : World) :
    Calls Try.prog 11 #[] w fun e w' => e = .returned (.bool true) ∧ Below w.heap.size w w' := by
  have H1 : Hid (quotaV us2 qs2 4 1 1 = ⟨1, 1, 2, 3, 9⟩ ∧ er (askB us2 qs2 4 1) = 0) := hid ⟨qt_eq (by decide +kernel), by decide +kernel⟩
  have H2 : Hid ((if rightB us2 qs2 4 = true then 4 + smB qs2 1 else 0) = 18 ∧ er (rightB us2 qs2 4) = 0) := hid (by decide +kernel)
  have M1 : Hid ((askB us2 qs2 4 1 && opensB us2 0 1 1) = true) := hid (by decide +kernel)
  have M2 : Hid ((askB us2 qs2 4 3 && opensB us2 0 3 1) = false) := hid (by decide +kernel)
  have M3 : Hid ((askB us2 qs2 4 0 && opensB us2 1 0 0) = false) := hid (by decide +kernel)
  have M4 : Hid ((askB us2 qs2 4 0 && opensB us2 2 0 0) = false) := hid (by decide +kernel)
  have hE := eql_quota
  have z1 : sameQ 1 1 2 3 9 1 1 2 3 9 = true := by decide
  go_enter Try.func11, Try.ntmps11
  go_wp2_with fail
  refine (two_any _).mono ?_
  rintro e w1 ⟨g, h, hg, hh, hgh, rfl, hc, hq, hb⟩
  go_wp2_with fail
  go_call of_any 1 1 _ as e w2 ⟨rfl, b2⟩
  replace hc := hc.keep b2
  replace hq := hq.keep b2
  replace hb := below_in hb b2
  clear b2
  go_wp2_with fail
  refine (quota_of 1 1 2 3 9 0 _ _ _ _ _ _ _ us2 qs2 1 1 H1 _ (pol_two hc hq)).mono ?_
  rintro e w3 ⟨rfl, b3⟩
  replace hb := below_in hb b3
  clear b3 hc hq hg hh hgh
  go_wp2_with fail
  refine (two_any _).mono ?_
  rintro e w4 ⟨g', h', hg, hh, hgh, rfl, hc, hq, b4⟩
  (have t0 : w4.cell? ⟨w3.heap.size, 0, none⟩ = some (.int .u8 1) := (keep b4 (by simp [go_sem])); have t1 : w4.cell? ⟨w3.heap.size, 1, none⟩ = some (.int .u32 1) := (keep b4 (by simp [go_sem])); have t2 : w4.cell? ⟨w3.heap.size, 2, none⟩ = some (.int .i64 2) := (keep b4 (by simp [go_sem])); have t3 : w4.cell? ⟨w3.heap.size, 3, none⟩ = some (.int .i64 3) := (keep b4 (by simp [go_sem])); have t4 : w4.cell? ⟨w3.heap.size, 4, none⟩ = some (.int .i64 9) := (keep b4 (by simp [go_sem])))
  replace hb := below_in hb (past_alloc b4)
  clear b4
  go_wp2_with fail
  refine (blocks_tells 18 0 _ _ _ _ _ _ _ us2 qs2 H2 _ (pol_two hc hq)).mono ?_
  rintro e w5 ⟨rfl, b5⟩
  (replace t0 := keep b5 t0; replace t1 := keep b5 t1; replace t2 := keep b5 t2; replace t3 := keep b5 t3; replace t4 := keep b5 t4)
  replace hb := below_in hb b5
  clear b5 hc hq hg hh hgh
  go_wp2_with fail
  (have q0 := Past.all t0; have q1 := Past.all t1; have q2 := Past.all t2; have q3 := Past.all t3; have q4 := Past.all t4)
  refine wp_region_past (by kernel_rfl) (by kernel_rfl) ?_
  repeat (go_big_quiet_step (exact quiet_below (of_any _ _ _)))
  go_big_quiet_step (exact quiet_below (lmay_of true 0 1 1 M1 _))
  repeat (go_big_quiet_step (exact quiet_below (of_any _ _ _)))
  go_big_quiet_step (exact quiet_below (lmay_of false 0 3 1 M2 _))
  repeat (go_big_quiet_step (exact quiet_below (of_any _ _ _)))
  go_big_quiet_step (exact quiet_below (lmay_of false 1 0 0 M3 _))
  repeat (go_big_quiet_step (exact quiet_below (of_any _ _ _)))
  go_big_quiet_step (exact quiet_below (lmay_of false 2 0 0 M4 _))
  repeat (go_big_quiet_step (exact quiet_below (of_any _ _ _)))
  refine wpQuiet_nil ?_
  rintro _ ⟨⟨w7, hx⟩, rfl⟩
  clear q0 q1 q2 q3 q4
  go_wp2
  go_ret
  exact ⟨rfl, below_in hb hx⟩
end Go.Proofs.Ytmmjciigbmgloaa
