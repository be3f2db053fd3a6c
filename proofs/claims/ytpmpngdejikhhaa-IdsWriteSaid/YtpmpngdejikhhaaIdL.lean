/-
  The contracts of Less and of what it asks, the program's and the reference's: one order, told by four numbers.
-/
import Derived.Test.YtpmpngdejikhhaaIdE
namespace Go.Proofs.Ytpmpngdejikhhaa
open Go.RowKit
set_option linter.unusedVariables false

def aheadB (l c l' c' : Int) : Bool := decide (l < l' ∨ l = l' ∧ c < c')
def lessB (l c k n l' c' k' n' : Int) : Bool := decide (n < n' ∨ n = n' ∧ (l < l' ∨ l = l' ∧ (c < c' ∨ c = c' ∧ k < k')))
theorem ret_bool {a b : Bool} (h : a = b) : Ending.returned (.bool a) = .returned (.bool b) := by rw [h]
theorem ret_int {k : IntKind} {a b : Int} (h : a = b) : Ending.returned (.int k a) = .returned (.int k b) := by rw [h]

set_option maxHeartbeats 400000 in
theorem ahead_any (l c l' c' : Int) (w : World) :
    Calls Try.prog 42 #[.agg #[.int .u8 l, .int .u32 c], .agg #[.int .u8 l', .int .u32 c']] w fun e w' =>
      e = .returned (.bool (aheadB l c l' c')) ∧ Below w.heap.size w w' := by
  go_enter Try.func42, Try.ntmps42
  by_cases h : l = l'
  · have h1 : (l == l') = true := by simp [h]
    have H := hid h; clear h
    go_wp2
    go_ret
    exact ⟨ret_bool (by rw [aheadB, decide_eq_decide]; have := H.out; omega), by go_grown⟩
  · have h1 : (l == l') = false := by simp [h]
    go_wp2
    go_ret
    exact ⟨ret_bool (by rw [aheadB, decide_eq_decide]; omega), by go_grown⟩

/-- The numbers of a label are of their kinds. -/
structure Lab (l c : Int) : Prop where
  l0 : 0 ≤ l
  l1 : l ≤ 255
  c0 : 0 ≤ c
  c1 : c ≤ 4294967295

set_option maxHeartbeats 400000 in
theorem rAhead_any (l c l' c' : Int) (h : Lab l c) (h' : Lab l' c') (w : World) :
    Calls Try.prog 43 #[.agg #[.int .u8 l, .int .u32 c], .agg #[.int .u8 l', .int .u32 c']] w fun e w' => e = .returned (.bool (aheadB l c l' c')) ∧ Below w.heap.size w w' := by
  obtain ⟨g1, g2, g3, g4⟩ := h
  obtain ⟨f1, f2, f3, f4⟩ := h'
  go_enter Try.func43, Try.ntmps43
  go_wp2
  go_ret
  refine ⟨?_, by go_grown⟩
  have e : decide (l * 4294967296 + c < l' * 4294967296 + c') = aheadB l c l' c' := by
    unfold aheadB
    rw [decide_eq_decide]; omega
  rw [← e]
  rfl

set_option maxHeartbeats 800000 in
theorem less_any (l c k n l' c' k' n' : Int) (w : World) :
    Calls Try.prog 25 #[.agg #[.int .u8 l, .int .u32 c, .int .u8 k, .int .i64 n], .agg #[.int .u8 l', .int .u32 c', .int .u8 k', .int .i64 n']] w fun e w' =>
      e = .returned (.bool (lessB l c k n l' c' k' n')) ∧ Below w.heap.size w w' := by
  have hE := neq_label
  go_enter Try.func25, Try.ntmps25
  by_cases h : n = n'
  · have h1 : (n != n') = false := by simp [h]
    have H := hid h; clear h
    by_cases g : l = l' ∧ c = c'
    · have g1 : sameL l c l' c' = true := by simp [sameL, g.1, g.2]
      have G := hid g; clear g
      go_wp2
      go_ret
      exact ⟨ret_bool (by rw [lessB, decide_eq_decide]; have := H.out; have := G.out; omega), by go_grown⟩
    · have g1 : sameL l c l' c' = false := by simp [sameL]; intro h; simp [h] at g; exact g
      have G := hid g; clear g
      go_wp2_with fail
      go_call ahead_any l c l' c' _ as e w1 ⟨rfl, b1⟩
      go_wp2
      go_ret
      exact ⟨ret_bool (by rw [lessB, aheadB, decide_eq_decide]; have := H.out; have := G.out; omega), below_in (by go_grown) b1⟩
  · have h1 : (n != n') = true := by simp [h]
    have H := hid h; clear h
    go_wp2
    go_ret
    exact ⟨ret_bool (by rw [lessB, decide_eq_decide]; have := H.out; omega), by go_grown⟩

theorem less_of (b : Bool) (l c k n l' c' k' n' : Int) (w : World) (h : lessB l c k n l' c' k' n' = b) :
    Calls Try.prog 25 #[.agg #[.int .u8 l, .int .u32 c, .int .u8 k, .int .i64 n], .agg #[.int .u8 l', .int .u32 c', .int .u8 k', .int .i64 n']] w fun e w' =>
      e = .returned (.bool b) ∧ Below w.heap.size w w' := by subst h; exact less_any l c k n l' c' k' n' w

theorem rAhead_of (b : Bool) (l c l' c' : Int) (h : Lab l c) (h' : Lab l' c') (w : World) (hb : aheadB l c l' c' = b) :
    Calls Try.prog 43 #[.agg #[.int .u8 l, .int .u32 c], .agg #[.int .u8 l', .int .u32 c']] w fun e w' => e = .returned (.bool b) ∧ Below w.heap.size w w' := by
  subst hb; exact rAhead_any l c l' c' h h' w

set_option maxHeartbeats 800000 in
theorem rLess_any (l c k n l' c' k' n' : Int) (h : Lab l c) (h' : Lab l' c') (w : World) :
    Calls Try.prog 26 #[.agg #[.int .u8 l, .int .u32 c, .int .u8 k, .int .i64 n], .agg #[.int .u8 l', .int .u32 c', .int .u8 k', .int .i64 n']] w fun e w' =>
      e = .returned (.bool (lessB l c k n l' c' k' n')) ∧ Below w.heap.size w w' := by
  have L1 := hid h
  have L2 := hid h'
  clear h h'
  go_enter Try.func26, Try.ntmps26
  by_cases h : n < n'
  · have H := hid (show lessB l c k n l' c' k' n' = true by simp [lessB]; omega)
    go_wp2
    go_ret
    exact ⟨ret_bool H.out.symm, by go_grown⟩
  by_cases g : n' < n
  · have H := hid (show lessB l c k n l' c' k' n' = false by simp [lessB]; omega)
    go_wp2
    go_ret
    exact ⟨ret_bool H.out.symm, by go_grown⟩
  cases ha : aheadB l c l' c'
  · cases hb : aheadB l' c' l c
    · have H := hid (show lessB l c k n l' c' k' n' = decide (k < k') by
        rw [lessB, decide_eq_decide]
        simp only [aheadB, decide_eq_false_iff_not] at ha hb
        omega)
      have HA := hid ha; have HB := hid hb; clear ha hb
      go_wp2_with fail
      go_call rAhead_of false l c l' c' L1.out L2.out _ HA.out as e w1 ⟨rfl, b1⟩
      have hb : Below w.heap.size w w1 := below_in (by go_grown) b1
      (have x0 : w1.cell? ⟨w.heap.size, 0, none⟩ = some (.int .u8 l) := (keep b1 (by simp)); have x1 : w1.cell? ⟨w.heap.size, 1, none⟩ = some (.int .u32 c) := (keep b1 (by simp)); have x2 : w1.cell? ⟨w.heap.size, 2, none⟩ = some (.int .u8 k) := (keep b1 (by simp)); have x3 : w1.cell? ⟨w.heap.size, 3, none⟩ = some (.int .i64 n) := (keep b1 (by simp)))
      (have y0 : w1.cell? ⟨w.heap.size + 1, 0, none⟩ = some (.int .u8 l') := (keep b1 (by simp)); have y1 : w1.cell? ⟨w.heap.size + 1, 1, none⟩ = some (.int .u32 c') := (keep b1 (by simp)); have y2 : w1.cell? ⟨w.heap.size + 1, 2, none⟩ = some (.int .u8 k') := (keep b1 (by simp)); have y3 : w1.cell? ⟨w.heap.size + 1, 3, none⟩ = some (.int .i64 n') := (keep b1 (by simp)))
      clear b1
      go_wp2_with fail
      go_call rAhead_of false l' c' l c L2.out L1.out _ HB.out as e w2 ⟨rfl, b1⟩
      (replace x0 := keep b1 x0; replace x1 := keep b1 x1; replace x2 := keep b1 x2; replace x3 := keep b1 x3)
      (replace y0 := keep b1 y0; replace y1 := keep b1 y1; replace y2 := keep b1 y2; replace y3 := keep b1 y3)
      replace hb := hb.trans (b1.mono hb.size)
      clear b1
      go_wp2
      go_ret
      exact ⟨ret_bool H.out.symm, hb⟩
    · have H := hid (show lessB l c k n l' c' k' n' = false by
        simp only [lessB, decide_eq_false_iff_not]
        simp only [aheadB, decide_eq_false_iff_not, decide_eq_true_eq] at ha hb
        omega)
      have HA := hid ha; have HB := hid hb; clear ha hb
      go_wp2_with fail
      go_call rAhead_of false l c l' c' L1.out L2.out _ HA.out as e w1 ⟨rfl, b1⟩
      have hb : Below w.heap.size w w1 := below_in (by go_grown) b1
      (have x0 : w1.cell? ⟨w.heap.size, 0, none⟩ = some (.int .u8 l) := (keep b1 (by simp)); have x1 : w1.cell? ⟨w.heap.size, 1, none⟩ = some (.int .u32 c) := (keep b1 (by simp)); have x2 : w1.cell? ⟨w.heap.size, 2, none⟩ = some (.int .u8 k) := (keep b1 (by simp)); have x3 : w1.cell? ⟨w.heap.size, 3, none⟩ = some (.int .i64 n) := (keep b1 (by simp)))
      (have y0 : w1.cell? ⟨w.heap.size + 1, 0, none⟩ = some (.int .u8 l') := (keep b1 (by simp)); have y1 : w1.cell? ⟨w.heap.size + 1, 1, none⟩ = some (.int .u32 c') := (keep b1 (by simp)); have y2 : w1.cell? ⟨w.heap.size + 1, 2, none⟩ = some (.int .u8 k') := (keep b1 (by simp)); have y3 : w1.cell? ⟨w.heap.size + 1, 3, none⟩ = some (.int .i64 n') := (keep b1 (by simp)))
      clear b1
      go_wp2_with fail
      go_call rAhead_of true l' c' l c L2.out L1.out _ HB.out as e w2 ⟨rfl, b1⟩
      replace hb := hb.trans (b1.mono hb.size)
      clear b1
      go_wp2
      go_ret
      exact ⟨ret_bool H.out.symm, hb⟩
  · have H := hid (show lessB l c k n l' c' k' n' = true by
      simp only [lessB, decide_eq_true_eq]
      simp only [aheadB, decide_eq_true_eq] at ha
      omega)
    have HA := hid ha; clear ha
    go_wp2_with fail
    go_call rAhead_of true l c l' c' L1.out L2.out _ HA.out as e w1 ⟨rfl, b1⟩
    go_wp2
    go_ret
    exact ⟨ret_bool H.out.symm, below_in (by go_grown) b1⟩

set_option maxHeartbeats 400000 in
theorem by_any (l k n : Int) (w : World) :
    Calls Try.prog 9 #[.int .u8 l, .int .u8 k, .int .i64 n] w fun e w' =>
      e = .returned (.agg #[.int .u8 l, .int .u32 1, .int .u8 k, .int .i64 n]) ∧ Below w.heap.size w w' := by
  go_enter Try.func9, Try.ntmps9
  go_wp2
  go_returns
  exact ⟨rfl, by go_grown⟩
end Go.Proofs.Ytpmpngdejikhhaa
