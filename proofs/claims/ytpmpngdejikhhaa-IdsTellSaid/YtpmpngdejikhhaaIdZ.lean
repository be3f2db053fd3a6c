/-
  The contract of the reference's Cut.
-/
import Derived.Test.YtpmpngdejikhhaaIdT
import Derived.Deep.RegionHeld
namespace Go.Proofs.Ytpmpngdejikhhaa
open Go.RowKit
set_option linter.unusedVariables false
set_option linter.unusedSimpArgs false

/-- What is held of the worlds may be said anew, stronger, in the midst of a region. -/
theorem wpAnyH_mono {P : Program} {ops : Array Oper} {Q : Exit → Act → World → Prop} {md : Region.Mode} {S S' : World → Prop} (h : ∀ w, S' w → S w) : ∀ (fuel : Nat) (listed : Array Bool) (a : Act) (w : World), wpAnyH P md ops Q S' fuel listed a w → wpAnyH P md ops Q S fuel listed a w
  | 0, _, _, _, H => H
  | fuel + 1, _, _, _, H => ⟨H.1, fun i hi => wpOp_mono (fun a' w' h' => ⟨h _ h'.1, wpAnyH_mono h fuel _ a' w' h'.2⟩) (H.2 i hi)⟩

set_option maxRecDepth 100000 in
set_option maxHeartbeats 2000000 in
theorem rCut_of (q : Bool) (j x0 x1 x2 x3 x4 x5 x6 : Int) (l c k n m p : Int) (hm0 : -9223372036854775808 ≤ m) (hx : Hid (cutB l k n m p = q ∧ cutE l k n m p = j ∧ pick q l = x0 ∧ pick q c = x1 ∧ pick q k = x2 ∧ pick q n = x3 ∧ pick q p = x4 ∧ pick q (n + p) = x5 ∧ pick q (m - p) = x6)) (w : World) :
    Calls Try.prog 21 #[.agg #[.int .u8 l, .int .u32 c, .int .u8 k, .int .i64 n, .int .i64 m], .int .i64 p] w fun e w' => e = .returned (.tuple #[.agg #[.int .u8 x0, .int .u32 x1, .int .u8 x2, .int .i64 x3, .int .i64 x4], .agg #[.int .u8 x0, .int .u32 x1, .int .u8 x2, .int .i64 x5, .int .i64 x6], .int .i64 j]) ∧ Below w.heap.size w w' := by
  go_enter Try.func21, Try.ntmps21
  go_wp2_with fail
  refine (maySpan_any l c k n m hm0 _).mono ?_
  rintro e w1 ⟨rfl, b1⟩
  have hb : Below w.heap.size w w1 := below_in (by go_grown) b1
  (have s0 : w1.cell? ⟨w.heap.size, 0, none⟩ = some (.int .u8 l) := (keep b1 (by simp [go_sem])); have s1 : w1.cell? ⟨w.heap.size, 1, none⟩ = some (.int .u32 c) := (keep b1 (by simp [go_sem])); have s2 : w1.cell? ⟨w.heap.size, 2, none⟩ = some (.int .u8 k) := (keep b1 (by simp [go_sem])); have s3 : w1.cell? ⟨w.heap.size, 3, none⟩ = some (.int .i64 n) := (keep b1 (by simp [go_sem])); have s4 : w1.cell? ⟨w.heap.size, 4, none⟩ = some (.int .i64 m) := (keep b1 (by simp [go_sem])))
  (have t0 : w1.cell? ⟨w.heap.size + 1, 0, none⟩ = some (.int .u8 0) := (keep b1 (by simp [go_sem])); have t1 : w1.cell? ⟨w.heap.size + 1, 1, none⟩ = some (.int .u32 0) := (keep b1 (by simp [go_sem])); have t2 : w1.cell? ⟨w.heap.size + 1, 2, none⟩ = some (.int .u8 0) := (keep b1 (by simp [go_sem])); have t3 : w1.cell? ⟨w.heap.size + 1, 3, none⟩ = some (.int .i64 0) := (keep b1 (by simp [go_sem])); have t4 : w1.cell? ⟨w.heap.size + 1, 4, none⟩ = some (.int .i64 0) := (keep b1 (by simp [go_sem])))
  (have u0 : w1.cell? ⟨w.heap.size + 1 + 1, 0, none⟩ = some (.int .u8 0) := (keep b1 (by simp [go_sem])); have u1 : w1.cell? ⟨w.heap.size + 1 + 1, 1, none⟩ = some (.int .u32 0) := (keep b1 (by simp [go_sem])); have u2 : w1.cell? ⟨w.heap.size + 1 + 1, 2, none⟩ = some (.int .u8 0) := (keep b1 (by simp [go_sem])); have u3 : w1.cell? ⟨w.heap.size + 1 + 1, 3, none⟩ = some (.int .i64 0) := (keep b1 (by simp [go_sem])); have u4 : w1.cell? ⟨w.heap.size + 1 + 1, 4, none⟩ = some (.int .i64 0) := (keep b1 (by simp [go_sem])))
  (have f0 : w1.frozen? ⟨w.heap.size + 1, 0, none⟩ = false := (keepz b1 (v := .int .u8 0) (by simp [go_sem]) (by simp [go_sem])); have f1 : w1.frozen? ⟨w.heap.size + 1, 1, none⟩ = false := (keepz b1 (v := .int .u32 0) (by simp [go_sem]) (by simp [go_sem])); have f2 : w1.frozen? ⟨w.heap.size + 1, 2, none⟩ = false := (keepz b1 (v := .int .u8 0) (by simp [go_sem]) (by simp [go_sem])); have f3 : w1.frozen? ⟨w.heap.size + 1, 3, none⟩ = false := (keepz b1 (v := .int .i64 0) (by simp [go_sem]) (by simp [go_sem])); have f4 : w1.frozen? ⟨w.heap.size + 1, 4, none⟩ = false := (keepz b1 (v := .int .i64 0) (by simp [go_sem]) (by simp [go_sem])))
  (have g0 : w1.frozen? ⟨w.heap.size + 1 + 1, 0, none⟩ = false := (keepz b1 (v := .int .u8 0) (by simp [go_sem]) (by simp [go_sem])); have g1 : w1.frozen? ⟨w.heap.size + 1 + 1, 1, none⟩ = false := (keepz b1 (v := .int .u32 0) (by simp [go_sem]) (by simp [go_sem])); have g2 : w1.frozen? ⟨w.heap.size + 1 + 1, 2, none⟩ = false := (keepz b1 (v := .int .u8 0) (by simp [go_sem]) (by simp [go_sem])); have g3 : w1.frozen? ⟨w.heap.size + 1 + 1, 3, none⟩ = false := (keepz b1 (v := .int .i64 0) (by simp [go_sem]) (by simp [go_sem])); have g4 : w1.frozen? ⟨w.heap.size + 1 + 1, 4, none⟩ = false := (keepz b1 (v := .int .i64 0) (by simp [go_sem]) (by simp [go_sem])))
  clear b1
  cases hq : mayS l k n m
  · have hx1 := hx.out
    rw [(cut_bad p hq).1, (cut_bad p hq).2] at hx1
    obtain ⟨rfl, rfl, rfl, rfl, rfl, rfl, rfl, rfl, rfl⟩ := hx1
    clear hx hq
    go_wp2
    exact bodyPost_ret (v := .tuple #[.agg #[.int .u8 0, .int .u32 0, .int .u8 0, .int .i64 0, .int .i64 0], .agg #[.int .u8 0, .int .u32 0, .int .u8 0, .int .i64 0, .int .i64 0], .int .i64 8]) (by simp [results, Try.results21, go_sem, t0, t1, t2, t3, t4, u0, u1, u2, u3, u4]) rfl ⟨rfl, set5 (set5 hb (by omega) _ _ _ _ _) (by omega) _ _ _ _ _⟩
  · obtain ⟨r1, r2, r3, r4, r5⟩ := mayS_range hq
    by_cases hp0 : p < 1
    · have hx1 := hx.out
      rw [(cut_arg hq (.inl hp0)).1, (cut_arg hq (.inl hp0)).2] at hx1
      obtain ⟨rfl, rfl, rfl, rfl, rfl, rfl, rfl, rfl, rfl⟩ := hx1
      have hd : decide (p < 1) = true := by simp; omega
      clear hx hq
      go_wp2
      exact bodyPost_ret (v := .tuple #[.agg #[.int .u8 0, .int .u32 0, .int .u8 0, .int .i64 0, .int .i64 0], .agg #[.int .u8 0, .int .u32 0, .int .u8 0, .int .i64 0, .int .i64 0], .int .i64 2]) (by simp [results, Try.results21, go_sem, t0, t1, t2, t3, t4, u0, u1, u2, u3, u4]) rfl ⟨rfl, set5 (set5 hb (by omega) _ _ _ _ _) (by omega) _ _ _ _ _⟩
    · have hd : decide (p < 1) = false := by simp; omega
      by_cases hpm : m ≤ p
      · have hx1 := hx.out
        rw [(cut_arg hq (.inr hpm)).1, (cut_arg hq (.inr hpm)).2] at hx1
        obtain ⟨rfl, rfl, rfl, rfl, rfl, rfl, rfl, rfl, rfl⟩ := hx1
        have hd2 : decide (m ≤ p) = true := by simp; omega
        clear hx hq
        go_wp2
        exact bodyPost_ret (v := .tuple #[.agg #[.int .u8 0, .int .u32 0, .int .u8 0, .int .i64 0, .int .i64 0], .agg #[.int .u8 0, .int .u32 0, .int .u8 0, .int .i64 0, .int .i64 0], .int .i64 2]) (by simp [results, Try.results21, go_sem, t0, t1, t2, t3, t4, u0, u1, u2, u3, u4]) rfl ⟨rfl, set5 (set5 hb (by omega) _ _ _ _ _) (by omega) _ _ _ _ _⟩
      · have hx1 := hx.out
        rw [(cut_good hq (p := p) (by omega)).1, (cut_good hq (p := p) (by omega)).2] at hx1
        have hd2 : decide (m ≤ p) = false := by simp; omega
        have HX := hx1.2.2.2.2.2.2.2.1
        have HY := hx1.2.2.2.2.2.2.2.2
        obtain ⟨rfl, rfl, rfl, rfl, rfl, rfl, rfl, _, _⟩ := hx1
        simp only [pick_true] at HX HY
        have hwx : IntKind.i64.wrap x6 = x6 := by rw [IntKind.wrap_i64]; omega
        obtain ⟨M, hM⟩ : ∃ M : Nat, (M : Int) = m := ⟨m.toNat, by omega⟩
        obtain ⟨P, rfl⟩ : ∃ P : Nat, p = (P : Int) := ⟨p.toNat, by omega⟩
        have HM := hid hM
        have hP0 : (0 : Int) ≤ (P : Int) := by omega
        have hPM : (P : Int) < (M : Int) := by omega
        have HP := hid (show P < M by omega)
        have HQ := hid hq
        clear hx hq hp0 hpm hM
        have hz : w.heap.size + 1 + 1 < w1.heap.size := by
          have := World.block_lt_of_cell? w1 _ u0
          simpa using this
        have hzW : w.heap.size + 1 ≤ w1.heap.size := by omega
        have q0 : ∀ w', Below (w.heap.size + 1) w1 w' → w'.cell? ⟨w.heap.size, 0, none⟩ = some (.int .u8 l) := fun w' h => by rw [h.cell (p := ⟨w.heap.size, 0, none⟩) (by show w.heap.size < _; omega)]; exact s0
        have q1 : ∀ w', Below (w.heap.size + 1) w1 w' → w'.cell? ⟨w.heap.size, 1, none⟩ = some (.int .u32 c) := fun w' h => by rw [h.cell (p := ⟨w.heap.size, 1, none⟩) (by show w.heap.size < _; omega)]; exact s1
        have q2 : ∀ w', Below (w.heap.size + 1) w1 w' → w'.cell? ⟨w.heap.size, 2, none⟩ = some (.int .u8 k) := fun w' h => by rw [h.cell (p := ⟨w.heap.size, 2, none⟩) (by show w.heap.size < _; omega)]; exact s2
        have q3 : ∀ w', Below (w.heap.size + 1) w1 w' → w'.cell? ⟨w.heap.size, 3, none⟩ = some (.int .i64 n) := fun w' h => by rw [h.cell (p := ⟨w.heap.size, 3, none⟩) (by show w.heap.size < _; omega)]; exact s3
        have q4 : ∀ w', Below (w.heap.size + 1) w1 w' → w'.cell? ⟨w.heap.size, 4, none⟩ = some (.int .i64 m) := fun w' h => by rw [h.cell (p := ⟨w.heap.size, 4, none⟩) (by show w.heap.size < _; omega)]; exact s4
        go_wp2_with fail
        have HT := hid (show _ ∧ _ ∧ _ ∧ _ ∧ _ from ⟨t0, t1, t2, t3, t4⟩)
        have HU := hid (show _ ∧ _ ∧ _ ∧ _ ∧ _ from ⟨u0, u1, u2, u3, u4⟩)
        have HF := hid (show _ ∧ _ ∧ _ ∧ _ ∧ _ from ⟨f0, f1, f2, f3, f4⟩)
        have HG := hid (show _ ∧ _ ∧ _ ∧ _ ∧ _ from ⟨g0, g1, g2, g3, g4⟩)
        have S0 : Below (w.heap.size + 1) w1 w1.drew := (Below.refl _ _).drew
        have hzD : w.heap.size + 1 ≤ w1.drew.heap.size := hzW
        have hg1 : w.heap.size + 1 ≤ w.heap.size + 1 := Nat.le_refl _
        have hg2 : w.heap.size + 1 ≤ w.heap.size + 1 + 1 := by omega
        clear s0 s1 s2 s3 s4 t0 t1 t2 t3 t4 u0 u1 u2 u3 u4 f0 f1 f2 f3 f4 g0 g1 g2 g3 g4
        refine wp_region_held_drew (S := fun w' => Below (w.heap.size + 1) w1 w') (by kernel_rfl) S0 (fun hHeld => ?_)
        refine wpAnyH_take (i := 0) (v := ?_) rfl (by kernel_rfl) (by kernel_rfl) (by kernel_rfl) (fun _ _ _ h => h) (Or.inl ⟨by rfl, ?_⟩) hHeld ?_
        rotate_left
        · intro w' hSw
          (try dsimp only at hSw)
          go_simp <;> with_reducible rfl
        (try simp only [Act.put, List.setIfInBounds_toArray, List.set_cons_zero, List.set_cons_succ])
        refine wpAnyH_take (i := 1) (v := ?_) rfl (by kernel_rfl) (by kernel_rfl) (by kernel_rfl) (fun _ _ _ h => h) (Or.inl ⟨by rfl, ?_⟩) hHeld ?_
        rotate_left
        · intro w' hSw
          (try dsimp only at hSw)
          go_simp <;> with_reducible rfl
        (try simp only [Act.put, List.setIfInBounds_toArray, List.set_cons_zero, List.set_cons_succ])
        refine wpAnyH_take (i := 2) (v := ?_) rfl (by kernel_rfl) (by kernel_rfl) (by kernel_rfl) (fun _ _ _ h => h) (Or.inl ⟨by rfl, ?_⟩) hHeld ?_
        rotate_left
        · intro w' hSw
          (try dsimp only at hSw)
          go_simp <;> with_reducible rfl
        (try simp only [Act.put, List.setIfInBounds_toArray, List.set_cons_zero, List.set_cons_succ])
        refine wpAnyH_take (i := 3) (v := ?_) rfl (by kernel_rfl) (by kernel_rfl) (by kernel_rfl) (fun _ _ _ h => h) (Or.inl ⟨by rfl, ?_⟩) hHeld ?_
        rotate_left
        · intro w' hSw
          (try dsimp only at hSw)
          go_simp <;> with_reducible rfl
        (try simp only [Act.put, List.setIfInBounds_toArray, List.set_cons_zero, List.set_cons_succ])
        refine wpAnyH_take (i := 4) (v := ?_) rfl (by kernel_rfl) (by kernel_rfl) (by kernel_rfl) (fun _ _ _ h => h) (Or.inl ⟨by rfl, ?_⟩) hHeld ?_
        rotate_left
        · intro w' hSw
          (try dsimp only at hSw)
          go_simp <;> with_reducible rfl
        (try simp only [Act.put, List.setIfInBounds_toArray, List.set_cons_zero, List.set_cons_succ])
        refine wpAnyH_take (i := 6) (v := ?_) rfl (by kernel_rfl) (by kernel_rfl) (by kernel_rfl) (fun _ _ _ h => h) (Or.inl ⟨by rfl, ?_⟩) hHeld ?_
        rotate_left
        · intro w' hSw
          (try dsimp only at hSw)
          go_simp <;> with_reducible rfl
        (try simp only [Act.put, List.setIfInBounds_toArray, List.set_cons_zero, List.set_cons_succ])
        refine wpAnyH_take (i := 9) (v := ?_) rfl (by kernel_rfl) (by kernel_rfl) (by kernel_rfl) (fun _ _ _ h => h) (Or.inl ⟨by rfl, ?_⟩) hHeld ?_
        rotate_left
        · intro w' hSw
          (try dsimp only at hSw)
          go_simp <;> with_reducible rfl
        (try simp only [Act.put, List.setIfInBounds_toArray, List.set_cons_zero, List.set_cons_succ])
        refine wpAnyH_take (i := 10) (v := ?_) rfl (by kernel_rfl) (by kernel_rfl) (by kernel_rfl) (fun _ _ _ h => h) (Or.inl ⟨by rfl, ?_⟩) hHeld ?_
        rotate_left
        · intro w' hSw
          (try dsimp only at hSw)
          go_simp <;> with_reducible rfl
        (try simp only [Act.put, List.setIfInBounds_toArray, List.set_cons_zero, List.set_cons_succ])
        refine wpAnyH_take (i := 11) (v := ?_) rfl (by kernel_rfl) (by kernel_rfl) (by kernel_rfl) (fun _ _ _ h => h) (Or.inl ⟨by rfl, ?_⟩) hHeld ?_
        rotate_left
        · intro w' hSw
          (try dsimp only at hSw)
          go_simp <;> with_reducible rfl
        (try simp only [Act.put, List.setIfInBounds_toArray, List.set_cons_zero, List.set_cons_succ])
        refine wpAnyH_take (i := 12) (v := ?_) rfl (by kernel_rfl) (by kernel_rfl) (by kernel_rfl) (fun _ _ _ h => h) (Or.inl ⟨by rfl, ?_⟩) hHeld ?_
        rotate_left
        · intro w' hSw
          (try dsimp only at hSw)
          go_simp <;> with_reducible rfl
        (try simp only [Act.put, List.setIfInBounds_toArray, List.set_cons_zero, List.set_cons_succ])
        refine wpAnyH_ready (rs := [5]) (by kernel_rfl) (by simp) ?_
        refine AllReadyH.cons rfl (fun K hK => ?_) AllReadyH.nil
        go_simp
        go_wp2_with (go_at_call 38; refine (all_of l c k n m M HM HQ.out _).mono ?_; rintro e w2 ⟨gg, cap, rfl, hgg, hr, hb1⟩; have hne1 : ¬ gg = w.heap.size + 1 := (by have : w1.heap.size ≤ gg := hgg; omega); have hne2 : ¬ gg = w.heap.size + 1 + 1 := (by have : w1.heap.size ≤ gg := hgg; omega); obtain ⟨y0, y1, y2, y3⟩ := hr.2.2 P HP.out; rw [HX] at y3; have hc1 : (M : Int) ≤ (cap : Int) := (by have := hr.1; omega); have hc2 : (cap : Int) ≤ 9223372036854775807 := (by have := hr.2.1; omega); have t0 := keep hb1 HT.out.1; have t1 := keep hb1 HT.out.2.1; have t2 := keep hb1 HT.out.2.2.1; have t3 := keep hb1 HT.out.2.2.2.1; have t4 := keep hb1 HT.out.2.2.2.2; have u0 := keep hb1 HU.out.1; have u1 := keep hb1 HU.out.2.1; have u2 := keep hb1 HU.out.2.2.1; have u3 := keep hb1 HU.out.2.2.2.1; have u4 := keep hb1 HU.out.2.2.2.2; have f0 := keepz hb1 HT.out.1 HF.out.1; have f1 := keepz hb1 HT.out.2.1 HF.out.2.1; have f2 := keepz hb1 HT.out.2.2.1 HF.out.2.2.1; have f3 := keepz hb1 HT.out.2.2.2.1 HF.out.2.2.2.1; have f4 := keepz hb1 HT.out.2.2.2.2 HF.out.2.2.2.2; have g0 := keepz hb1 HU.out.1 HG.out.1; have g1 := keepz hb1 HU.out.2.1 HG.out.2.1; have g2 := keepz hb1 HU.out.2.2.1 HG.out.2.2.1; have g3 := keepz hb1 HU.out.2.2.2.1 HG.out.2.2.2.1; have g4 := keepz hb1 HU.out.2.2.2.2 HG.out.2.2.2.2)
        refine hK.out _ _ (S0.trans (hb1.mono hzD)) (fun hHeld2 => ?_)
        clear hK K
        refine wpAnyH_mono (S' := fun w' => Below (w.heap.size + 1) w1 w' ∧ w'.cell? ⟨gg, P * 4, none⟩ = some (.int .u8 l) ∧ w'.cell? ⟨gg, P * 4 + 1, none⟩ = some (.int .u32 c) ∧ w'.cell? ⟨gg, P * 4 + 2, none⟩ = some (.int .u8 k) ∧ w'.cell? ⟨gg, P * 4 + 3, none⟩ = some (.int .i64 x5)) (fun _ h => h.1) _ _ _ _ ?_
        have hS2 : Below (w.heap.size + 1) w1 w2 ∧ w2.cell? ⟨gg, P * 4, none⟩ = some (.int .u8 l) ∧ w2.cell? ⟨gg, P * 4 + 1, none⟩ = some (.int .u32 c) ∧ w2.cell? ⟨gg, P * 4 + 2, none⟩ = some (.int .u8 k) ∧ w2.cell? ⟨gg, P * 4 + 3, none⟩ = some (.int .i64 x5) := ⟨hHeld2, y0, y1, y2, y3⟩
        clear q0 q1 q2 q3 q4
        refine wpAnyH_take (i := 7) (v := ?_) rfl (by kernel_rfl) (by kernel_rfl) (by kernel_rfl) (fun _ _ _ h => h) (Or.inl ⟨by rfl, ?_⟩) hS2 ?_
        rotate_left
        · intro w' hSw
          (try dsimp only at hSw)
          obtain ⟨k0, k1, k2, k3, k4⟩ := hSw
          go_simp <;> with_reducible rfl
        (try simp only [Act.put, List.setIfInBounds_toArray, List.set_cons_zero, List.set_cons_succ])
        refine wpAnyH_take (i := 8) (v := ?_) rfl (by kernel_rfl) (by kernel_rfl) (by kernel_rfl) (fun _ _ _ h => h) (Or.inl ⟨by rfl, ?_⟩) hS2 ?_
        rotate_left
        · intro w' hSw
          (try dsimp only at hSw)
          obtain ⟨k0, k1, k2, k3, k4⟩ := hSw
          go_simp <;> with_reducible rfl
        (try simp only [Act.put, List.setIfInBounds_toArray, List.set_cons_zero, List.set_cons_succ])
        refine wpAnyH_take (i := 13) (v := ?_) rfl (by kernel_rfl) (by kernel_rfl) (by kernel_rfl) (fun _ _ _ h => h) (Or.inl ⟨by rfl, ?_⟩) hS2 ?_
        rotate_left
        · intro w' hSw
          (try dsimp only at hSw)
          obtain ⟨k0, k1, k2, k3, k4⟩ := hSw
          go_simp <;> with_reducible rfl
        (try simp only [Act.put, List.setIfInBounds_toArray, List.set_cons_zero, List.set_cons_succ])
        refine wpAnyH_ready (rs := [14]) (by kernel_rfl) (by simp) ?_
        refine AllReadyH.cons rfl (fun K hK => ?_) AllReadyH.nil
        go_simp
        refine hK.out _ _ ⟨set5 hHeld2 hg1 _ _ _ _ _, by simp [go_sem, hne1, y0], by simp [go_sem, hne1, y1], by simp [go_sem, hne1, y2], by simp [go_sem, hne1, y3]⟩ (fun hHeld3 => ?_)
        clear hK K
        refine wpAnyH_ready (rs := [15]) (by kernel_rfl) (by simp) ?_
        refine AllReadyH.cons rfl (fun K hK => ?_) AllReadyH.nil
        go_simp
        refine hK.out _ _ ⟨set5 hHeld3.1 hg2 _ _ _ _ _, by simp [go_sem, hne1, hne2, y0], by simp [go_sem, hne1, hne2, y1], by simp [go_sem, hne1, hne2, y2], by simp [go_sem, hne1, hne2, y3]⟩ (fun hHeld4 => ?_)
        clear hK K
        refine wpAnyH_take (i := 16) (v := ?_) rfl (by kernel_rfl) (by kernel_rfl) (by kernel_rfl) (fun _ _ _ h => h) (Or.inl ⟨by rfl, ?_⟩) hHeld4 ?_
        rotate_left
        · intro w' hSw
          (try dsimp only at hSw)
          obtain ⟨k0, k1, k2, k3, k4⟩ := hSw
          go_simp <;> with_reducible rfl
        (try simp only [Act.put, List.setIfInBounds_toArray, List.set_cons_zero, List.set_cons_succ])
        refine wpAnyH_done (by kernel_rfl) ?_ _
        have hb2 := below_in hb ((Below.refl _ w1).drew.trans hb1)
        clear hHeld hHeld2 hHeld3 hHeld4 hS2
        go_simp
        go_wp2
        exact bodyPost_ret (v := .tuple #[.agg #[.int .u8 l, .int .u32 c, .int .u8 k, .int .i64 n, .int .i64 (P : Int)], .agg #[.int .u8 l, .int .u32 c, .int .u8 k, .int .i64 x5, .int .i64 x6], .int .i64 0]) (by simp [results, Try.results21, go_sem, t0, t1, t2, t3, t4, u0, u1, u2, u3, u4]) rfl ⟨rfl, set5 (set5 hb2 (by omega) _ _ _ _ _) (by omega) _ _ _ _ _⟩
end Go.Proofs.Ytpmpngdejikhhaa
