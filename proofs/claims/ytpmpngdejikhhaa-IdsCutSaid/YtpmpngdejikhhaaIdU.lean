/-
  The contract of Cut.
-/
import Derived.Test.YtpmpngdejikhhaaIdS
namespace Go.Proofs.Ytpmpngdejikhhaa
open Go.RowKit
set_option linter.unusedVariables false
set_option linter.unusedSimpArgs false

set_option maxHeartbeats 1600000 in
theorem cut_of (q : Bool) (j x0 x1 x2 x3 x4 x5 x6 : Int) (l c k n m p : Int) (hx : Hid (cutB l k n m p = q ∧ cutE l k n m p = j ∧ pick q l = x0 ∧ pick q c = x1 ∧ pick q k = x2 ∧ pick q n = x3 ∧ pick q p = x4 ∧ pick q (n + p) = x5 ∧ pick q (m - p) = x6)) (w : World) :
    Calls Try.prog 11 #[.agg #[.int .u8 l, .int .u32 c, .int .u8 k, .int .i64 n, .int .i64 m], .int .i64 p] w fun e w' => e = .returned (.tuple #[.agg #[.int .u8 x0, .int .u32 x1, .int .u8 x2, .int .i64 x3, .int .i64 x4], .agg #[.int .u8 x0, .int .u32 x1, .int .u8 x2, .int .i64 x5, .int .i64 x6], .int .i64 j]) ∧ Below w.heap.size w w' := by
  go_enter Try.func11, Try.ntmps11
  go_wp2_with fail
  refine (checkSpan_any l c k n m _).mono ?_
  rintro e w1 ⟨rfl, b1⟩
  have hb : Below w.heap.size w w1 := below_in (by go_grown) b1
  (have s0 : w1.cell? ⟨w.heap.size, 0, none⟩ = some (.int .u8 l) := (keep b1 (by simp [go_sem])); have s1 : w1.cell? ⟨w.heap.size, 1, none⟩ = some (.int .u32 c) := (keep b1 (by simp [go_sem])); have s2 : w1.cell? ⟨w.heap.size, 2, none⟩ = some (.int .u8 k) := (keep b1 (by simp [go_sem])); have s3 : w1.cell? ⟨w.heap.size, 3, none⟩ = some (.int .i64 n) := (keep b1 (by simp [go_sem])); have s4 : w1.cell? ⟨w.heap.size, 4, none⟩ = some (.int .i64 m) := (keep b1 (by simp [go_sem])))
  (have t0 : w1.cell? ⟨w.heap.size + 1, 0, none⟩ = some (.int .u8 0) := (keep b1 (by simp [go_sem])); have t1 : w1.cell? ⟨w.heap.size + 1, 1, none⟩ = some (.int .u32 0) := (keep b1 (by simp [go_sem])); have t2 : w1.cell? ⟨w.heap.size + 1, 2, none⟩ = some (.int .u8 0) := (keep b1 (by simp [go_sem])); have t3 : w1.cell? ⟨w.heap.size + 1, 3, none⟩ = some (.int .i64 0) := (keep b1 (by simp [go_sem])); have t4 : w1.cell? ⟨w.heap.size + 1, 4, none⟩ = some (.int .i64 0) := (keep b1 (by simp [go_sem])))
  (have u0 : w1.cell? ⟨w.heap.size + 1 + 1, 0, none⟩ = some (.int .u8 0) := (keep b1 (by simp [go_sem])); have u1 : w1.cell? ⟨w.heap.size + 1 + 1, 1, none⟩ = some (.int .u32 0) := (keep b1 (by simp [go_sem])); have u2 : w1.cell? ⟨w.heap.size + 1 + 1, 2, none⟩ = some (.int .u8 0) := (keep b1 (by simp [go_sem])); have u3 : w1.cell? ⟨w.heap.size + 1 + 1, 3, none⟩ = some (.int .i64 0) := (keep b1 (by simp [go_sem])); have u4 : w1.cell? ⟨w.heap.size + 1 + 1, 4, none⟩ = some (.int .i64 0) := (keep b1 (by simp [go_sem])))
  (have f0 : w1.frozen? ⟨w.heap.size + 1, 0, none⟩ = false := (keepz b1 (v := .int .u8 0) (by simp [go_sem]) (by simp [go_sem])); have f1 : w1.frozen? ⟨w.heap.size + 1, 1, none⟩ = false := (keepz b1 (v := .int .u32 0) (by simp [go_sem]) (by simp [go_sem])); have f2 : w1.frozen? ⟨w.heap.size + 1, 2, none⟩ = false := (keepz b1 (v := .int .u8 0) (by simp [go_sem]) (by simp [go_sem])); have f3 : w1.frozen? ⟨w.heap.size + 1, 3, none⟩ = false := (keepz b1 (v := .int .i64 0) (by simp [go_sem]) (by simp [go_sem])); have f4 : w1.frozen? ⟨w.heap.size + 1, 4, none⟩ = false := (keepz b1 (v := .int .i64 0) (by simp [go_sem]) (by simp [go_sem])))
  (have g0 : w1.frozen? ⟨w.heap.size + 1 + 1, 0, none⟩ = false := (keepz b1 (v := .int .u8 0) (by simp [go_sem]) (by simp [go_sem])); have g1 : w1.frozen? ⟨w.heap.size + 1 + 1, 1, none⟩ = false := (keepz b1 (v := .int .u32 0) (by simp [go_sem]) (by simp [go_sem])); have g2 : w1.frozen? ⟨w.heap.size + 1 + 1, 2, none⟩ = false := (keepz b1 (v := .int .u8 0) (by simp [go_sem]) (by simp [go_sem])); have g3 : w1.frozen? ⟨w.heap.size + 1 + 1, 3, none⟩ = false := (keepz b1 (v := .int .i64 0) (by simp [go_sem]) (by simp [go_sem])); have g4 : w1.frozen? ⟨w.heap.size + 1 + 1, 4, none⟩ = false := (keepz b1 (v := .int .i64 0) (by simp [go_sem]) (by simp [go_sem])))
  clear b1
  cases hq : mayS l k n m
  · have hx1 := hx.out
    rw [(cut_bad p hq).1, (cut_bad p hq).2] at hx1
    obtain ⟨rfl, rfl, rfl, rfl, rfl, rfl, rfl, rfl, rfl⟩ := hx1
    have e8 : (er false != 0) = true := rfl
    have e8' : er false = 8 := rfl
    clear hx hq
    go_wp2
    exact bodyPost_ret (v := .tuple #[.agg #[.int .u8 0, .int .u32 0, .int .u8 0, .int .i64 0, .int .i64 0], .agg #[.int .u8 0, .int .u32 0, .int .u8 0, .int .i64 0, .int .i64 0], .int .i64 8]) (by simp [results, Try.results11, go_sem, t0, t1, t2, t3, t4, u0, u1, u2, u3, u4]) rfl ⟨rfl, set5 (set5 hb (by omega) _ _ _ _ _) (by omega) _ _ _ _ _⟩
  · obtain ⟨r1, r2, r3, r4, r5⟩ := mayS_range hq
    have e0 : (er true != 0) = false := rfl
    have e0' : er true = 0 := rfl
    by_cases hp0 : p < 1
    · have hx1 := hx.out
      rw [(cut_arg hq (.inl hp0)).1, (cut_arg hq (.inl hp0)).2] at hx1
      obtain ⟨rfl, rfl, rfl, rfl, rfl, rfl, rfl, rfl, rfl⟩ := hx1
      have hd : decide (p < 1) = true := by simp; omega
      clear hx hq
      go_wp2
      exact bodyPost_ret (v := .tuple #[.agg #[.int .u8 0, .int .u32 0, .int .u8 0, .int .i64 0, .int .i64 0], .agg #[.int .u8 0, .int .u32 0, .int .u8 0, .int .i64 0, .int .i64 0], .int .i64 2]) (by simp [results, Try.results11, go_sem, t0, t1, t2, t3, t4, u0, u1, u2, u3, u4]) rfl ⟨rfl, set5 (set5 hb (by omega) _ _ _ _ _) (by omega) _ _ _ _ _⟩
    · have hd : decide (p < 1) = false := by simp; omega
      by_cases hpm : m ≤ p
      · have hx1 := hx.out
        rw [(cut_arg hq (.inr hpm)).1, (cut_arg hq (.inr hpm)).2] at hx1
        obtain ⟨rfl, rfl, rfl, rfl, rfl, rfl, rfl, rfl, rfl⟩ := hx1
        have hd2 : decide (m ≤ p) = true := by simp; omega
        clear hx hq
        go_wp2
        exact bodyPost_ret (v := .tuple #[.agg #[.int .u8 0, .int .u32 0, .int .u8 0, .int .i64 0, .int .i64 0], .agg #[.int .u8 0, .int .u32 0, .int .u8 0, .int .i64 0, .int .i64 0], .int .i64 2]) (by simp [results, Try.results11, go_sem, t0, t1, t2, t3, t4, u0, u1, u2, u3, u4]) rfl ⟨rfl, set5 (set5 hb (by omega) _ _ _ _ _) (by omega) _ _ _ _ _⟩
      · have hx1 := hx.out
        rw [(cut_good hq (p := p) (by omega)).1, (cut_good hq (p := p) (by omega)).2] at hx1
        have hd2 : decide (m ≤ p) = false := by simp; omega
        have HX := hid hx1.2.2.2.2.2.2.2.1
        have HY := hx1.2.2.2.2.2.2.2.2
        obtain ⟨rfl, rfl, rfl, rfl, rfl, rfl, rfl, _, _⟩ := hx1
        simp only [pick_true] at HX HY
        have B0 : -9223372036854775808 ≤ x5 := by have := HX.out; omega
        have B1 : x5 ≤ 9223372036854775807 := by have := HX.out; omega
        have C0 : -9223372036854775808 ≤ x6 := by omega
        have C1 : x6 ≤ 9223372036854775807 := by omega
        clear hx hq hp0 hpm
        go_wp2_with fail
        generalize hW : (((((w1.setCell _ _).setCell _ _).setCell _ _).setCell _ _).setCell _ _) = W
        have hz : w.heap.size + 1 + 1 ≤ w1.heap.size := by
          have := World.block_lt_of_cell? w1 _ u0
          simp at this; omega
        have hbW : Below w.heap.size w W := by subst hW; exact set5 hb (by omega) _ _ _ _ _
        have hzW : w.heap.size + 1 + 1 ≤ W.heap.size := by subst hW; simpa using hz
        have hz2 : w.heap.size + 1 + 1 < W.heap.size := by
          have := World.block_lt_of_cell? w1 _ u0
          subst hW
          simpa using this
        (have a0 : W.cell? ⟨w.heap.size, 0, none⟩ = some (.int .u8 l) := ((by subst hW; simp [go_sem, s0, s1, s2, s3, s4])); have a1 : W.cell? ⟨w.heap.size, 1, none⟩ = some (.int .u32 c) := ((by subst hW; simp [go_sem, s0, s1, s2, s3, s4])); have a2 : W.cell? ⟨w.heap.size, 2, none⟩ = some (.int .u8 k) := ((by subst hW; simp [go_sem, s0, s1, s2, s3, s4])); have a3 : W.cell? ⟨w.heap.size, 3, none⟩ = some (.int .i64 n) := ((by subst hW; simp [go_sem, s0, s1, s2, s3, s4])); have a4 : W.cell? ⟨w.heap.size, 4, none⟩ = some (.int .i64 m) := ((by subst hW; simp [go_sem, s0, s1, s2, s3, s4])))
        (have b0 : W.cell? ⟨w.heap.size + 1, 0, none⟩ = some (.int .u8 l) := ((by subst hW; simp [go_sem, t0, t1, t2, t3, t4])); have b1 : W.cell? ⟨w.heap.size + 1, 1, none⟩ = some (.int .u32 c) := ((by subst hW; simp [go_sem, t0, t1, t2, t3, t4])); have b2 : W.cell? ⟨w.heap.size + 1, 2, none⟩ = some (.int .u8 k) := ((by subst hW; simp [go_sem, t0, t1, t2, t3, t4])); have b3 : W.cell? ⟨w.heap.size + 1, 3, none⟩ = some (.int .i64 n) := ((by subst hW; simp [go_sem, t0, t1, t2, t3, t4])); have b4 : W.cell? ⟨w.heap.size + 1, 4, none⟩ = some (.int .i64 p) := ((by subst hW; simp [go_sem, t0, t1, t2, t3, t4])))
        (have d0 : W.cell? ⟨w.heap.size + 1 + 1, 0, none⟩ = some (.int .u8 0) := ((by subst hW; simp [go_sem, u0, u1, u2, u3, u4])); have d1 : W.cell? ⟨w.heap.size + 1 + 1, 1, none⟩ = some (.int .u32 0) := ((by subst hW; simp [go_sem, u0, u1, u2, u3, u4])); have d2 : W.cell? ⟨w.heap.size + 1 + 1, 2, none⟩ = some (.int .u8 0) := ((by subst hW; simp [go_sem, u0, u1, u2, u3, u4])); have d3 : W.cell? ⟨w.heap.size + 1 + 1, 3, none⟩ = some (.int .i64 0) := ((by subst hW; simp [go_sem, u0, u1, u2, u3, u4])); have d4 : W.cell? ⟨w.heap.size + 1 + 1, 4, none⟩ = some (.int .i64 0) := ((by subst hW; simp [go_sem, u0, u1, u2, u3, u4])))
        (have y0 : W.frozen? ⟨w.heap.size + 1, 0, none⟩ = false := ((by subst hW; simp [go_sem, f0, f1, f2, f3, f4])); have y1 : W.frozen? ⟨w.heap.size + 1, 1, none⟩ = false := ((by subst hW; simp [go_sem, f0, f1, f2, f3, f4])); have y2 : W.frozen? ⟨w.heap.size + 1, 2, none⟩ = false := ((by subst hW; simp [go_sem, f0, f1, f2, f3, f4])); have y3 : W.frozen? ⟨w.heap.size + 1, 3, none⟩ = false := ((by subst hW; simp [go_sem, f0, f1, f2, f3, f4])); have y4 : W.frozen? ⟨w.heap.size + 1, 4, none⟩ = false := ((by subst hW; simp [go_sem, f0, f1, f2, f3, f4])))
        (have z0 : W.frozen? ⟨w.heap.size + 1 + 1, 0, none⟩ = false := ((by subst hW; simp [go_sem, g0, g1, g2, g3, g4])); have z1 : W.frozen? ⟨w.heap.size + 1 + 1, 1, none⟩ = false := ((by subst hW; simp [go_sem, g0, g1, g2, g3, g4])); have z2 : W.frozen? ⟨w.heap.size + 1 + 1, 2, none⟩ = false := ((by subst hW; simp [go_sem, g0, g1, g2, g3, g4])); have z3 : W.frozen? ⟨w.heap.size + 1 + 1, 3, none⟩ = false := ((by subst hW; simp [go_sem, g0, g1, g2, g3, g4])); have z4 : W.frozen? ⟨w.heap.size + 1 + 1, 4, none⟩ = false := ((by subst hW; simp [go_sem, g0, g1, g2, g3, g4])))
        clear hW hb s0 s1 s2 s3 s4 t0 t1 t2 t3 t4 u0 u1 u2 u3 u4 f0 f1 f2 f3 f4 g0 g1 g2 g3 g4
        have q0 : ∀ w', Below (w.heap.size + 1 + 1) W w' → w'.cell? ⟨w.heap.size, 0, none⟩ = some (.int .u8 l) := fun w' h => by rw [h.cell (p := ⟨w.heap.size, 0, none⟩) (by show w.heap.size < _; omega)]; exact a0
        have q1 : ∀ w', Below (w.heap.size + 1 + 1) W w' → w'.cell? ⟨w.heap.size, 1, none⟩ = some (.int .u32 c) := fun w' h => by rw [h.cell (p := ⟨w.heap.size, 1, none⟩) (by show w.heap.size < _; omega)]; exact a1
        have q2 : ∀ w', Below (w.heap.size + 1 + 1) W w' → w'.cell? ⟨w.heap.size, 2, none⟩ = some (.int .u8 k) := fun w' h => by rw [h.cell (p := ⟨w.heap.size, 2, none⟩) (by show w.heap.size < _; omega)]; exact a2
        have q3 : ∀ w', Below (w.heap.size + 1 + 1) W w' → w'.cell? ⟨w.heap.size, 3, none⟩ = some (.int .i64 n) := fun w' h => by rw [h.cell (p := ⟨w.heap.size, 3, none⟩) (by show w.heap.size < _; omega)]; exact a3
        have q4 : ∀ w', Below (w.heap.size + 1 + 1) W w' → w'.cell? ⟨w.heap.size, 4, none⟩ = some (.int .i64 m) := fun w' h => by rw [h.cell (p := ⟨w.heap.size, 4, none⟩) (by show w.heap.size < _; omega)]; exact a4
        have hwx : IntKind.i64.wrap x6 = x6 := by rw [IntKind.wrap_i64]; omega
        have HD := hid (show _ ∧ _ ∧ _ ∧ _ ∧ _ from ⟨d0, d1, d2, d3, d4⟩)
        have HZ := hid (show _ ∧ _ ∧ _ ∧ _ ∧ _ from ⟨z0, z1, z2, z3, z4⟩)
        clear a0 a1 a2 a3 a4 d0 d1 d2 d3 d4 z0 z1 z2 z3 z4
        go_region_held (fun w' => Below (w.heap.size + 1 + 1) W w') (first | assumption | exact (Below.refl _ _).drew | exact ((Below.refl _ W).drew).trans (hb1.mono hzW) | exact set5 (by assumption) (Nat.le_refl _) _ _ _ _ _) ((go_at_call 33; refine (behind_any l c k n p x5 _ HX.out B0 B1).mono ?_; rintro e w2 ⟨rfl, hb1⟩; have d0 := keep hb1 HD.out.1; have d1 := keep hb1 HD.out.2.1; have d2 := keep hb1 HD.out.2.2.1; have d3 := keep hb1 HD.out.2.2.2.1; have d4 := keep hb1 HD.out.2.2.2.2; have z0 := keepz hb1 HD.out.1 HZ.out.1; have z1 := keepz hb1 HD.out.2.1 HZ.out.2.1; have z2 := keepz hb1 HD.out.2.2.1 HZ.out.2.2.1; have z3 := keepz hb1 HD.out.2.2.2.1 HZ.out.2.2.2.1; have z4 := keepz hb1 HD.out.2.2.2.2 HZ.out.2.2.2.2))
        have hS : Below (w.heap.size + 1 + 1) W (((((w2.setCell ⟨w.heap.size + 1 + 1, 0, none⟩ (.int .u8 l)).setCell ⟨w.heap.size + 1 + 1, 1, none⟩ (.int .u32 c)).setCell ⟨w.heap.size + 1 + 1, 2, none⟩ (.int .u8 k)).setCell ⟨w.heap.size + 1 + 1, 3, none⟩ (.int .i64 x5)).setCell ⟨w.heap.size + 1 + 1, 4, none⟩ (.int .i64 x6)) := by assumption
        (replace y0 := keepz hb1 b0 y0; replace y1 := keepz hb1 b1 y1; replace y2 := keepz hb1 b2 y2; replace y3 := keepz hb1 b3 y3; replace y4 := keepz hb1 b4 y4)
        (replace b0 := keep hb1 b0; replace b1 := keep hb1 b1; replace b2 := keep hb1 b2; replace b3 := keep hb1 b3; replace b4 := keep hb1 b4)
        have hb2 : Below W.heap.size W w2 := (Below.refl _ W).drew.trans hb1
        have hz3 : w.heap.size + 1 + 1 < w2.heap.size := Nat.lt_of_lt_of_le hz2 hb2.size
        clear q0 q1 q2 q3 q4 HD HZ hb1
        go_wp2_with fail
        generalize hV : (((((w2.setCell _ _).setCell _ _).setCell _ _).setCell _ _).setCell _ _) = V
        have hbV : Below w.heap.size w V := by subst hV; exact hbW.trans (hS.mono (by omega))
        (have g0 : V.cell? ⟨w.heap.size + 1, 0, none⟩ = some (.int .u8 l) := ((by subst hV; simp [go_sem, b0, b1, b2, b3, b4])); have g1 : V.cell? ⟨w.heap.size + 1, 1, none⟩ = some (.int .u32 c) := ((by subst hV; simp [go_sem, b0, b1, b2, b3, b4])); have g2 : V.cell? ⟨w.heap.size + 1, 2, none⟩ = some (.int .u8 k) := ((by subst hV; simp [go_sem, b0, b1, b2, b3, b4])); have g3 : V.cell? ⟨w.heap.size + 1, 3, none⟩ = some (.int .i64 n) := ((by subst hV; simp [go_sem, b0, b1, b2, b3, b4])); have g4 : V.cell? ⟨w.heap.size + 1, 4, none⟩ = some (.int .i64 p) := ((by subst hV; simp [go_sem, b0, b1, b2, b3, b4])))
        (have h0 : V.cell? ⟨w.heap.size + 1 + 1, 0, none⟩ = some (.int .u8 l) := ((by subst hV; simp [go_sem, d0, d1, d2, d3, d4])); have h1 : V.cell? ⟨w.heap.size + 1 + 1, 1, none⟩ = some (.int .u32 c) := ((by subst hV; simp [go_sem, d0, d1, d2, d3, d4])); have h2 : V.cell? ⟨w.heap.size + 1 + 1, 2, none⟩ = some (.int .u8 k) := ((by subst hV; simp [go_sem, d0, d1, d2, d3, d4])); have h3 : V.cell? ⟨w.heap.size + 1 + 1, 3, none⟩ = some (.int .i64 x5) := ((by subst hV; simp [go_sem, d0, d1, d2, d3, d4])); have h4 : V.cell? ⟨w.heap.size + 1 + 1, 4, none⟩ = some (.int .i64 x6) := ((by subst hV; simp [go_sem, d0, d1, d2, d3, d4])))
        (have u0 : V.frozen? ⟨w.heap.size + 1, 0, none⟩ = false := ((by subst hV; simp [go_sem, y0, y1, y2, y3, y4])); have u1 : V.frozen? ⟨w.heap.size + 1, 1, none⟩ = false := ((by subst hV; simp [go_sem, y0, y1, y2, y3, y4])); have u2 : V.frozen? ⟨w.heap.size + 1, 2, none⟩ = false := ((by subst hV; simp [go_sem, y0, y1, y2, y3, y4])); have u3 : V.frozen? ⟨w.heap.size + 1, 3, none⟩ = false := ((by subst hV; simp [go_sem, y0, y1, y2, y3, y4])); have u4 : V.frozen? ⟨w.heap.size + 1, 4, none⟩ = false := ((by subst hV; simp [go_sem, y0, y1, y2, y3, y4])))
        (have v0 : V.frozen? ⟨w.heap.size + 1 + 1, 0, none⟩ = false := ((by subst hV; simp [go_sem, z0, z1, z2, z3, z4])); have v1 : V.frozen? ⟨w.heap.size + 1 + 1, 1, none⟩ = false := ((by subst hV; simp [go_sem, z0, z1, z2, z3, z4])); have v2 : V.frozen? ⟨w.heap.size + 1 + 1, 2, none⟩ = false := ((by subst hV; simp [go_sem, z0, z1, z2, z3, z4])); have v3 : V.frozen? ⟨w.heap.size + 1 + 1, 3, none⟩ = false := ((by subst hV; simp [go_sem, z0, z1, z2, z3, z4])); have v4 : V.frozen? ⟨w.heap.size + 1 + 1, 4, none⟩ = false := ((by subst hV; simp [go_sem, z0, z1, z2, z3, z4])))
        clear hV hS hb2 hbW b0 b1 b2 b3 b4 d0 d1 d2 d3 d4 y0 y1 y2 y3 y4 z0 z1 z2 z3 z4
        have hg1 : w.heap.size ≤ w.heap.size + 1 := by omega
        have hg2 : w.heap.size ≤ w.heap.size + 1 + 1 := by omega
        go_region
        all_goals
          go_wp2
          exact bodyPost_ret (v := .tuple #[.agg #[.int .u8 l, .int .u32 c, .int .u8 k, .int .i64 n, .int .i64 p], .agg #[.int .u8 l, .int .u32 c, .int .u8 k, .int .i64 x5, .int .i64 x6], .int .i64 0]) (by simp [results, Try.results11, go_sem, g0, g1, g2, g3, g4, h0, h1, h2, h3, h4]) rfl ⟨rfl, (set5 (set5 hbV hg1 _ _ _ _ _) hg2 _ _ _ _ _).drew⟩
end Go.Proofs.Ytpmpngdejikhhaa
