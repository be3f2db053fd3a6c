/-
  The contracts of the reference: one clearance, one quota, their sum, what may be.
-/
import Derived.Test.YtbigppdaoakkfaaPoA
import Derived.BigRegion
namespace Go.Proofs.Ytbigppdaoakkfaa
open Go.RowKit
set_option linter.unusedVariables false
set_option linter.unusedSimpArgs false

theorem rMay_of (q : Bool) (l c : Int) (h : Hid (mayL l = q)) (w : World) :
    Calls Try.prog 61 #[.agg #[.int .u8 l, .int .u32 c]] w fun e w' => e = .returned (.bool q) ∧ Below w.heap.size w w' := by rw [← h.out]; exact rMay_any l c w
theorem rAhead_of (b : Bool) (l c l' c' : Int) (h : Lab l c) (h' : Lab l' c') (w : World) (hb : aheadB l c l' c' = b) :
    Calls Try.prog 51 #[.agg #[.int .u8 l, .int .u32 c], .agg #[.int .u8 l', .int .u32 c']] w fun e w' => e = .returned (.bool b) ∧ Below w.heap.size w w' := by
  subst hb; exact rAhead_any l c l' c' h h' w

set_option maxHeartbeats 800000 in
theorem rClear_of (q : Bool) (l c : Int) (b : Bool) (h : Hid (clearB ⟨l, c, b⟩ = q)) (w : World) :
    Calls Try.prog 49 #[.agg #[.int .u8 l, .int .u32 c, .bool b]] w fun e w' => e = .returned (.bool q) ∧ Below w.heap.size w w' := by
  have hE := eql_label
  cases hm : mayL l
  · have HV := hid (show q = false by rw [← h.out, clearB]; simp [hm])
    have HM := hid hm
    clear hm
    go_enter Try.func49, Try.ntmps49
    go_wp2_with fail
    refine (rMay_of false l c HM _).mono ?_
    rintro e w1 ⟨rfl, b1⟩
    replace b1 := past_alloc b1
    go_wp2
    go_ret
    exact ⟨ret_bool HV.out.symm, b1⟩
  · have HM := hid hm
    cases b
    · have HV := hid (show sameL l c 0 0 = q by rw [← h.out, clearB]; simp [hm])
      clear hm
      go_enter Try.func49, Try.ntmps49
      go_wp2_with fail
      refine (rMay_of true l c HM _).mono ?_
      rintro e w1 ⟨rfl, b1⟩
      (have s0 : w1.cell? ⟨w.heap.size, 0, none⟩ = some (.int .u8 l) := (keep b1 (by simp [go_sem])); have s1 : w1.cell? ⟨w.heap.size, 1, none⟩ = some (.int .u32 c) := (keep b1 (by simp [go_sem])); have s2 : w1.cell? ⟨w.heap.size, 2, none⟩ = some (.bool false) := (keep b1 (by simp [go_sem])))
      replace b1 := past_alloc b1
      go_wp2
      go_ret
      exact ⟨ret_bool HV.out, b1⟩
    · have HV := hid (show q = true by rw [← h.out, clearB]; simp [hm])
      clear hm
      go_enter Try.func49, Try.ntmps49
      go_wp2_with fail
      refine (rMay_of true l c HM _).mono ?_
      rintro e w1 ⟨rfl, b1⟩
      (have s0 : w1.cell? ⟨w.heap.size, 0, none⟩ = some (.int .u8 l) := (keep b1 (by simp [go_sem])); have s1 : w1.cell? ⟨w.heap.size, 1, none⟩ = some (.int .u32 c) := (keep b1 (by simp [go_sem])); have s2 : w1.cell? ⟨w.heap.size, 2, none⟩ = some (.bool true) := (keep b1 (by simp [go_sem])))
      replace b1 := past_alloc b1
      go_wp2
      go_ret
      exact ⟨ret_bool HV.out.symm, b1⟩

set_option maxHeartbeats 1600000 in
theorem rOne_of (q : Bool) (l c o p k : Int) (h : Hid (quotaB ⟨l, c, o, p, k⟩ = q)) (w : World) :
    Calls Try.prog 50 #[.agg #[.int .u8 l, .int .u32 c, .int .i64 o, .int .i64 p, .int .i64 k]] w fun e w' => e = .returned (.bool q) ∧ Below w.heap.size w w' := by
  cases hm : mayL l
  · have HV := hid (show q = false by rw [← h.out, quotaB]; simp [hm])
    have HM := hid hm
    clear hm
    go_enter Try.func50, Try.ntmps50
    go_wp2_with fail
    refine (rMay_of false l c HM _).mono ?_
    rintro e w1 ⟨rfl, b1⟩
    replace b1 := past_alloc b1
    go_wp2
    go_ret
    exact ⟨ret_bool HV.out.symm, b1⟩
  · have HM := hid hm
    have HV := hid (show (decide (0 ≤ o) && decide (o ≤ 64) && (decide (0 ≤ p) && decide (p ≤ 256)) && (decide (0 ≤ k) && decide (k ≤ 4096))) = q by rw [← h.out, quotaB, hm]; simp [inR])
    clear hm
    go_enter Try.func50, Try.ntmps50
    go_wp2_with fail
    refine (rMay_of true l c HM _).mono ?_
    rintro e w1 ⟨rfl, b1⟩
    (have s0 : w1.cell? ⟨w.heap.size, 0, none⟩ = some (.int .u8 l) := (keep b1 (by simp [go_sem])); have s1 : w1.cell? ⟨w.heap.size, 1, none⟩ = some (.int .u32 c) := (keep b1 (by simp [go_sem])); have s2 : w1.cell? ⟨w.heap.size, 2, none⟩ = some (.int .i64 o) := (keep b1 (by simp [go_sem])); have s3 : w1.cell? ⟨w.heap.size, 3, none⟩ = some (.int .i64 p) := (keep b1 (by simp [go_sem])); have s4 : w1.cell? ⟨w.heap.size, 4, none⟩ = some (.int .i64 k) := (keep b1 (by simp [go_sem])))
    replace b1 := past_alloc b1
    cases d1 : decide (0 ≤ o)
    · have HW := hid (show q = false by rw [← HV.out, d1]; simp)
      go_wp2
      go_ret
      exact ⟨ret_bool HW.out.symm, b1⟩
    cases d2 : decide (o ≤ 64)
    · have HW := hid (show q = false by rw [← HV.out, d2]; simp)
      go_wp2
      go_ret
      exact ⟨ret_bool HW.out.symm, b1⟩
    cases d3 : decide (0 ≤ p)
    · have HW := hid (show q = false by rw [← HV.out, d3]; simp)
      go_wp2
      go_ret
      exact ⟨ret_bool HW.out.symm, b1⟩
    cases d4 : decide (p ≤ 256)
    · have HW := hid (show q = false by rw [← HV.out, d4]; simp)
      go_wp2
      go_ret
      exact ⟨ret_bool HW.out.symm, b1⟩
    cases d5 : decide (0 ≤ k)
    · have HW := hid (show q = false by rw [← HV.out, d5]; simp)
      go_wp2
      go_ret
      exact ⟨ret_bool HW.out.symm, b1⟩
    have HW := hid (show decide (k ≤ 4096) = q by rw [← HV.out, d1, d2, d3, d4, d5]; rfl)
    go_wp2
    go_ret
    exact ⟨ret_bool HW.out, b1⟩
end Go.Proofs.Ytbigppdaoakkfaa
