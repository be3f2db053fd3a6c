/-
  The contract of checkQuotas: each quota may be, and is ahead of the next one.
-/
import Derived.Test.YtbigppdaoakkfaaPoB
namespace Go.Proofs.Ytbigppdaoakkfaa
open Go.RowKit
set_option linter.unusedVariables false
set_option linter.unusedSimpArgs false

theorem ahead_of (b : Bool) (l c l' c' : Int) (w : World) (h : aheadB l c l' c' = b) :
    Calls Try.prog 56 #[.agg #[.int .u8 l, .int .u32 c], .agg #[.int .u8 l', .int .u32 c']] w fun e w' => e = .returned (.bool b) ∧ Below w.heap.size w w' := by subst h; exact ahead_any l c l' c' w
theorem gatherF (a : Bool) (w : World) :
    Calls Try.prog 37 #[.slice (some ⟨w.heap.size, 0, none⟩) 2 2] (w.alloc (.cells #[.int .i64 (er a), .int .i64 8] 26)) fun e w' => e = .returned (.int .i64 (er false)) ∧ w.alloc (.cells #[.int .i64 (er a), .int .i64 8] 26) = w' :=
  gather_rd (er false) _ 2 2 [er a, 8] (hid rfl) (hid (by cases a <;> rfl)) _ (lit_e w [er a, 8] (by simp))

set_option maxRecDepth 100000 in
set_option maxHeartbeats 1600000 in
theorem quotas_of (q : Bool) (A : Option Addr) (n c : Nat) (qs : List Qt) (hn : Hid (qs.length = n)) (hq : Hid (quotasB qs = q)) (w : World) (hr : RdQ w A c qs) :
    Calls Try.prog 39 #[.slice A n c] w fun e w' => e = .returned (.int .i64 (er q)) ∧ Below w.heap.size w w' := by
  have hc2 : (c : Int) ≤ 9223372036854775807 := by have := hr.cap; omega
  have hc1 : (n : Int) ≤ c := by have := hr.len; have := hn.out; omega
  have HR := hid hr
  have H0 := hid (show inR (n : Int) 8 = (decide (qs.length ≤ 8) && okQ qs 0) by rw [hn.out, inR, okQ, Bool.and_true, decide_eq_decide]; omega)
  clear hr
  go_enter Try.func39, Try.ntmps39
  go_wp2_with fail
  refine (count_any _ _ _).mono ?_
  rintro e w1 ⟨rfl, rfl⟩
  go_wp2_with fail
  go_loopw [3, 4, 5, 11] (fun e y x i wr => ∃ (j : Nat) (p : Bool), j ≤ n ∧ i = .int .i64 (j : Int) ∧ e = .int .i64 (er p) ∧ Hid (p = (decide (qs.length ≤ 8) && okQ qs j)) ∧ Below w.heap.size w wr) (fun _ _ _ i _ => n - (intOf i).toNat)
  case atStart => exact ⟨0, _, by omega, rfl, rfl, H0, Below.refl _ _⟩
  case round =>
    obtain ⟨j, p, hj, rfl, rfl, hp, hb⟩ := hrel
    by_cases hlt : j < n
    · have hl := hn.out
      obtain ⟨b, o, rfl, hcell⟩ := (HR.out.keep hb).at_ (by omega)
      obtain ⟨k0, k1, k2, k3, k4, ht⟩ := hcell j (by omega)
      have hs : okQ qs (j + 1) = (okQ qs j && (quotaB (qs[j]'(by omega)) && nextB qs j)) := by rw [okQ, getD_at qs zQ j (by omega)]
      cases j with
      | zero =>
        have hs2 : nextB qs 0 = true := rfl
        generalize qs[0]'(by omega) = x at k0 k1 k2 k3 k4 ht hs
        obtain ⟨x0, x1, x2, x3, x4⟩ := x
        rw [hs2, Bool.and_true] at hs
        simp only [Nat.zero_mul, Nat.add_zero] at k0 k1 k2 k3 k4
        have hlt2 : (0 : Int) < (n : Int) := by omega
        have HS := hid hs
        clear hs hcell hl ht hs2
        go_wp2_with fail
        go_call quota_any x0 x1 x2 x3 x4 _ as e w2 ⟨rfl, b2⟩
        (have s0 : w2.cell? ⟨wr.heap.size, 0, none⟩ = some (.int .u8 x0) := (keep b2 (by simp [go_sem])); have s1 : w2.cell? ⟨wr.heap.size, 1, none⟩ = some (.int .u32 x1) := (keep b2 (by simp [go_sem])); have s2 : w2.cell? ⟨wr.heap.size, 2, none⟩ = some (.int .i64 x2) := (keep b2 (by simp [go_sem])); have s3 : w2.cell? ⟨wr.heap.size, 3, none⟩ = some (.int .i64 x3) := (keep b2 (by simp [go_sem])); have s4 : w2.cell? ⟨wr.heap.size, 4, none⟩ = some (.int .i64 x4) := (keep b2 (by simp [go_sem])))
        replace hb := below_in hb (past_alloc b2)
        clear b2 k0 k1 k2 k3 k4
        go_wp2_with fail
        refine (gather2 _ _ _).mono ?_
        rintro e w3 ⟨rfl, rfl⟩
        generalize hW : w2.alloc _ = W
        replace hb : Below w.heap.size w W := by rw [← hW]; exact hb.alloc hb.size _
        (have t0 : W.cell? ⟨wr.heap.size, 0, none⟩ = some (.int .u8 x0) := ((by rw [← hW]; exact keepa (by assumption) _)); have t1 : W.cell? ⟨wr.heap.size, 1, none⟩ = some (.int .u32 x1) := ((by rw [← hW]; exact keepa (by assumption) _)); have t2 : W.cell? ⟨wr.heap.size, 2, none⟩ = some (.int .i64 x2) := ((by rw [← hW]; exact keepa (by assumption) _)); have t3 : W.cell? ⟨wr.heap.size, 3, none⟩ = some (.int .i64 x3) := ((by rw [← hW]; exact keepa (by assumption) _)); have t4 : W.cell? ⟨wr.heap.size, 4, none⟩ = some (.int .i64 x4) := ((by rw [← hW]; exact keepa (by assumption) _)))
        clear hW s0 s1 s2 s3 s4
        rw [gath2]
        go_wp2_with fail
        (have r0 := Past.all t0; have r1 := Past.all t1; have r2 := Past.all t2; have r3 := Past.all t3; have r4 := Past.all t4)
        refine wp_region_past (by kernel_rfl) (by kernel_rfl) ?_
        repeat (go_big_quiet_step (fail))
        refine wpQuiet_nil ?_
        rintro w4 ⟨⟨_, hx⟩, rfl⟩
        replace hb := below_in hb hx
        clear hx r0 r1 r2 r3 r4 t0 t1 t2 t3 t4
        go_wp2
        go_roundw
        case rel => exact ⟨1, _, by omega, by go_num, rfl, hid (by rw [hp.out, HS.out, Bool.and_assoc]), hb⟩
        case measure => simp [intOf]; omega
      | succ m =>
        obtain ⟨m0, m1, -⟩ := hcell m (by omega)
        have hs2 : nextB qs (m + 1) = aheadB (qs[m]'(by omega)).l (qs[m]'(by omega)).c (qs[m + 1]'(by omega)).l (qs[m + 1]'(by omega)).c := by
          rw [nextB, Nat.add_sub_cancel, getD_at qs zQ (m + 1) (by omega), getD_at qs zQ m (by omega)]; rfl
        rw [hs2] at hs
        generalize qs[m]'(by omega) = y at m0 m1 hs
        generalize qs[m + 1]'(by omega) = x at k0 k1 k2 k3 k4 ht hs
        obtain ⟨x0, x1, x2, x3, x4⟩ := x
        obtain ⟨y0, y1, y2, y3, y4⟩ := y
        have hlt2 : (m : Int) + 1 < (n : Int) := by omega
        have HS := hid hs
        clear hs hcell hl ht hs2
        go_wp2_with fail
        go_call quota_any x0 x1 x2 x3 x4 _ as e w2 ⟨rfl, b2⟩
        (have s0 : w2.cell? ⟨wr.heap.size, 0, none⟩ = some (.int .u8 x0) := (keep b2 (by simp [go_sem])); have s1 : w2.cell? ⟨wr.heap.size, 1, none⟩ = some (.int .u32 x1) := (keep b2 (by simp [go_sem])); have s2 : w2.cell? ⟨wr.heap.size, 2, none⟩ = some (.int .i64 x2) := (keep b2 (by simp [go_sem])); have s3 : w2.cell? ⟨wr.heap.size, 3, none⟩ = some (.int .i64 x3) := (keep b2 (by simp [go_sem])); have s4 : w2.cell? ⟨wr.heap.size, 4, none⟩ = some (.int .i64 x4) := (keep b2 (by simp [go_sem])))
        replace b2 := past_alloc b2
        replace m0 := keep b2 m0
        replace m1 := keep b2 m1
        replace hb := below_in hb b2
        clear b2 k0 k1 k2 k3 k4
        go_wp2_with fail
        refine (gather2 _ _ _).mono ?_
        rintro e w3 ⟨rfl, rfl⟩
        generalize hW : w2.alloc _ = W
        replace hb : Below w.heap.size w W := by rw [← hW]; exact hb.alloc hb.size _
        (have t0 : W.cell? ⟨wr.heap.size, 0, none⟩ = some (.int .u8 x0) := ((by rw [← hW]; exact keepa (by assumption) _)); have t1 : W.cell? ⟨wr.heap.size, 1, none⟩ = some (.int .u32 x1) := ((by rw [← hW]; exact keepa (by assumption) _)); have t2 : W.cell? ⟨wr.heap.size, 2, none⟩ = some (.int .i64 x2) := ((by rw [← hW]; exact keepa (by assumption) _)); have t3 : W.cell? ⟨wr.heap.size, 3, none⟩ = some (.int .i64 x3) := ((by rw [← hW]; exact keepa (by assumption) _)); have t4 : W.cell? ⟨wr.heap.size, 4, none⟩ = some (.int .i64 x4) := ((by rw [← hW]; exact keepa (by assumption) _)))
        replace m0 : W.cell? ⟨b, o + m * 5, none⟩ = some (.int .u8 y0) := by rw [← hW]; exact keepa m0 _
        replace m1 : W.cell? ⟨b, o + m * 5 + 1, none⟩ = some (.int .u32 y1) := by rw [← hW]; exact keepa m1 _
        clear hW s0 s1 s2 s3 s4
        rw [gath2]
        go_wp2_with fail
        (have r0 := Past.all t0; have r1 := Past.all t1; have r2 := Past.all t2; have r3 := Past.all t3; have r4 := Past.all t4)
        (have u0 := Past.all m0; have u1 := Past.all m1)
        have g1 : decide (0 < (m : Int) + 1) = true := decide_eq_true (by omega)
        have g2 : (m : Int) + 1 - 1 = (m : Int) := by omega
        have g3 : (m : Int) < (n : Int) := by omega
        have g4 : IntKind.i64.wrap (m : Int) = (m : Int) := by rw [IntKind.wrap_i64]; omega
        cases ha : aheadB y0 y1 x0 x1
        · have HA := hid ha
          rw [ha, Bool.and_false, Bool.and_false] at HS
          clear ha
          refine wp_region_past (by kernel_rfl) (by kernel_rfl) ?_
          repeat (go_big_quiet_step (exact quiet_below (ahead_of false _ _ _ _ _ HA.out)))
          refine wpQuiet_nil ?_
          rintro w4 ⟨⟨_, hx⟩, rfl⟩
          replace hb := below_in hb hx
          clear hx r0 r1 r2 r3 r4 t0 t1 t2 t3 t4 u0 u1 m0 m1 g1 g2 g3 g4
          go_wp2_with fail
          refine (gatherF _ _).mono ?_
          rintro e w5 ⟨rfl, rfl⟩
          go_wp2
          go_roundw
          case rel => exact ⟨m + 1 + 1, false, by omega, by go_num, rfl, hid (by rw [HS.out, Bool.and_false]), hb.alloc hb.size _⟩
          case measure => simp [intOf]; omega
        · have HA := hid ha
          rw [ha, Bool.and_true] at HS
          clear ha
          refine wp_region_past (by kernel_rfl) (by kernel_rfl) ?_
          repeat (go_big_quiet_step (exact quiet_below (ahead_of true _ _ _ _ _ HA.out)))
          refine wpQuiet_nil ?_
          rintro w4 ⟨⟨_, hx⟩, rfl⟩
          replace hb := below_in hb hx
          clear hx r0 r1 r2 r3 r4 t0 t1 t2 t3 t4 u0 u1 m0 m1 g1 g2 g3 g4
          go_wp2
          go_roundw
          case rel => exact ⟨m + 1 + 1, _, by omega, by go_num, rfl, hid (by rw [hp.out, HS.out, Bool.and_assoc]), hb⟩
          case measure => simp [intOf]; omega
    · obtain rfl : j = n := by omega
      go_wp2
      go_ret
      exact ⟨ret_int (by rw [hp.out, ← hq.out, quotasB, hn.out]), hb⟩
end Go.Proofs.Ytbigppdaoakkfaa
