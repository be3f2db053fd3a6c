/-
  The small contracts: labels, handles, ids and spans are checked; the id that is so many behind.
-/
import Derived.Test.YtbhglgcnoidddaaRows
import Derived.Test.YtbhglgcnoidddaaBase
namespace Go.Proofs.Ytbhglgcnoidddaa
open Go.RowKit
set_option linter.unusedVariables false

theorem below_in {w W w1 : World} (h : Below w.heap.size w W) (b : Below W.heap.size W w1) : Below w.heap.size w w1 := h.trans (b.mono h.size)

theorem past_alloc {w w2 : World} {o : Obj} (b : Below (w.alloc o).heap.size (w.alloc o) w2) : Below w.heap.size w w2 := ((Below.refl _ w).alloc (Nat.le_refl _) o).trans (b.mono (by simp))
theorem past_alloc2 {w w2 : World} {o p : Obj} (b : Below ((w.alloc o).alloc p).heap.size ((w.alloc o).alloc p) w2) : Below w.heap.size w w2 := past_alloc (past_alloc b)
theorem past_alloc3 {w w2 : World} {o p q : Obj} (b : Below (((w.alloc o).alloc p).alloc q).heap.size (((w.alloc o).alloc p).alloc q) w2) : Below w.heap.size w w2 := past_alloc (past_alloc2 b)
theorem set3 {w w' : World} {b g : Nat} (h : Below b w w') (hg : b ≤ g) (x y z : Value) : Below b w (((w'.setCell ⟨g, 0, none⟩ x).setCell ⟨g, 1, none⟩ y).setCell ⟨g, 2, none⟩ z) := ((h.setCell hg _).setCell hg _).setCell hg _
theorem set4 {w w' : World} {b g : Nat} (h : Below b w w') (hg : b ≤ g) (x y z u : Value) : Below b w ((((w'.setCell ⟨g, 0, none⟩ x).setCell ⟨g, 1, none⟩ y).setCell ⟨g, 2, none⟩ z).setCell ⟨g, 3, none⟩ u) := (set3 h hg x y z).setCell hg _
theorem set5 {w w' : World} {b g : Nat} (h : Below b w w') (hg : b ≤ g) (x y z u t : Value) : Below b w (((((w'.setCell ⟨g, 0, none⟩ x).setCell ⟨g, 1, none⟩ y).setCell ⟨g, 2, none⟩ z).setCell ⟨g, 3, none⟩ u).setCell ⟨g, 4, none⟩ t) := (set4 h hg x y z u).setCell hg _

def er (b : Bool) : Int := if b then 0 else 8
def mayL (l : Int) : Bool := decide (l ≤ 15)
def mayH (l k : Int) : Bool := mayL l && decide (k < 8)
def mayI (l k n : Int) : Bool := mayH l k && decide (1 ≤ n ∧ n ≤ 1099511627776)
def mayS (l k n m : Int) : Bool := mayI l k n && decide (1 ≤ m ∧ m ≤ 64 ∧ n + m ≤ 1099511627777)

set_option maxHeartbeats 400000 in
theorem check_any (l c : Int) (w : World) :
    Calls Try.prog 52 #[.agg #[.int .u8 l, .int .u32 c]] w fun e w' =>
      e = .returned (.int .i64 (er (mayL l))) ∧ Below w.heap.size w w' := by
  go_enter Try.func52, Try.ntmps52
  go_wp2
  all_goals (go_returns; exact ⟨by simp [er, mayL, *] <;> omega, by go_grown⟩)

set_option maxHeartbeats 400000 in
theorem checkHandle_any (l c k : Int) (w : World) :
    Calls Try.prog 47 #[.agg #[.int .u8 l, .int .u32 c, .int .u8 k]] w fun e w' =>
      e = .returned (.int .i64 (er (mayH l k))) ∧ Below w.heap.size w w' := by
  go_enter Try.func47, Try.ntmps47
  by_cases h : k < 8
  · have h1 : decide (8 ≤ k) = false := by simp; omega
    have H := hid h; clear h
    go_wp2_with fail
    go_call check_any l c _ as e w1 ⟨rfl, b1⟩
    go_wp2
    go_ret
    exact ⟨by simp [mayH, H.out], (show Below w.heap.size w _ by go_grown).trans (b1.mono (by simp))⟩
  · have h1 : decide (8 ≤ k) = true := by simp; omega
    go_wp2_with fail
    go_ret
    exact ⟨by simp [mayH, er, h], by go_grown⟩

set_option maxHeartbeats 400000 in
theorem behind_any (l c k n m r : Int) (w : World) (hr : n + m = r) (h0 : -9223372036854775808 ≤ r) (h1 : r ≤ 9223372036854775807) :
    Calls Try.prog 81 #[.agg #[.int .u8 l, .int .u32 c, .int .u8 k, .int .i64 n], .int .i64 m] w fun e w' =>
      e = .returned (.agg #[.int .u8 l, .int .u32 c, .int .u8 k, .int .i64 r]) ∧ Below w.heap.size w w' := by
  go_enter Try.func81, Try.ntmps81
  go_wp2
  go_returns
  exact ⟨rfl, by go_grown⟩

set_option maxHeartbeats 400000 in
theorem check_id (l c k n : Int) (w : World) :
    Calls Try.prog 80 #[.agg #[.int .u8 l, .int .u32 c, .int .u8 k, .int .i64 n]] w fun e w' =>
      e = .returned (.int .i64 (er (mayI l k n))) ∧ Below w.heap.size w w' := by
  go_enter Try.func80, Try.ntmps80
  by_cases h : n < 1
  · have h1 : decide (n < 1) = true := by simp; omega
    have e : er (mayI l k n) = 8 := by simp [er, mayI]; omega
    go_wp2_with fail
    go_ret
    exact ⟨by first | (rw [e]; rfl) | rfl, by go_grown⟩
  · have h1 : decide (n < 1) = false := by simp; omega
    by_cases g : 1099511627776 < n
    · have g1 : decide (1099511627776 < n) = true := by simp; omega
      have e : er (mayI l k n) = 8 := by simp [er, mayI]; omega
      have H := hid h; have G := hid g; clear h g
      go_wp2_with fail
      go_ret
      exact ⟨by first | (rw [e]; rfl) | rfl, by go_grown⟩
    · have g1 : decide (1099511627776 < n) = false := by simp; omega
      have e : mayI l k n = mayH l k := by simp [mayI]; omega
      have H := hid h; have G := hid g; clear h g
      go_wp2_with fail
      go_call checkHandle_any l c k _ as e w1 ⟨rfl, b1⟩
      go_wp2
      go_ret
      exact ⟨by first | (rw [e]; rfl) | rfl, (show Below w.heap.size w _ by go_grown).trans (b1.mono (by simp))⟩

set_option maxHeartbeats 400000 in
theorem checkSpan_any (l c k n m : Int) (w : World) :
    Calls Try.prog 48 #[.agg #[.int .u8 l, .int .u32 c, .int .u8 k, .int .i64 n, .int .i64 m]] w fun e w' =>
      e = .returned (.int .i64 (er (mayS l k n m))) ∧ Below w.heap.size w w' := by
  go_enter Try.func48, Try.ntmps48
  by_cases h : m < 1
  · have h1 : decide (m < 1) = true := by simp; omega
    have e : er (mayS l k n m) = 8 := by simp [er, mayS]; omega
    go_wp2_with fail
    go_ret
    exact ⟨by first | (rw [e]; rfl) | rfl, by go_grown⟩
  · have h1 : decide (m < 1) = false := by simp; omega
    by_cases g : 64 < m
    · have g1 : decide (64 < m) = true := by simp; omega
      have e : er (mayS l k n m) = 8 := by simp [er, mayS]; omega
      have H := hid h; have G := hid g; clear h g
      go_wp2_with fail
      go_ret
      exact ⟨by first | (rw [e]; rfl) | rfl, by go_grown⟩
    · have g1 : decide (64 < m) = false := by simp; omega
      have H := hid h; have G := hid g; clear h g
      go_wp2_with fail
      go_call check_id l c k n _ as e w1 ⟨rfl, b1⟩
      have hb : Below w.heap.size w w1 := (show Below w.heap.size w _ by go_grown).trans (b1.mono (by simp))
      have k0 := keep b1 (a := ⟨w.heap.size, 0, none⟩) (v := .int .u8 l) (by simp)
      have k1 := keep b1 (a := ⟨w.heap.size, 1, none⟩) (v := .int .u32 c) (by simp)
      have k2 := keep b1 (a := ⟨w.heap.size, 2, none⟩) (v := .int .u8 k) (by simp)
      have k3 := keep b1 (a := ⟨w.heap.size, 3, none⟩) (v := .int .i64 n) (by simp)
      have k4 := keep b1 (a := ⟨w.heap.size, 4, none⟩) (v := .int .i64 m) (by simp)
      clear b1
      by_cases hk : mayI l k n = true
      · have hk1 : (er (mayI l k n) != 0) = false := by rw [hk]; rfl
        have hn : 1 ≤ n ∧ n ≤ 1099511627776 := by simp [mayI] at hk; omega
        obtain ⟨r, hr⟩ : ∃ r, m - 1 = r := ⟨_, rfl⟩
        obtain ⟨q, hq⟩ : ∃ q, n + r = q := ⟨_, rfl⟩
        have e : mayS l k n m = mayI l k q := by
          have := H.out; have := G.out
          simp only [mayI, Bool.and_eq_true] at hk
          simp only [mayS, mayI, hk.1, Bool.true_and]
          rw [Bool.eq_iff_iff]; simp; omega
        have R0 := H.out; have R1 := G.out
        have b0 : -9223372036854775808 ≤ q := by omega
        have b1 : q ≤ 9223372036854775807 := by omega
        have r0 : -9223372036854775808 ≤ r := by omega
        have r1 : r ≤ 9223372036854775807 := by omega
        have Q := hid hq
        clear hk hn R0 R1 hq
        go_wp2_with fail
        refine (behind_any l c k n r q _ Q.out b0 b1).mono ?_
        rintro e' w2 ⟨rfl, b2⟩
        go_wp2_with fail
        go_call check_id l c k q _ as e' w3 ⟨rfl, b3⟩
        go_wp2
        go_ret
        exact ⟨by first | (rw [e]; rfl) | rfl, (hb.trans (b2.mono hb.size)).trans (b3.mono (Nat.le_trans hb.size b2.size))⟩
      · have hk1 : (er (mayI l k n) != 0) = true := by simp at hk; rw [hk]; rfl
        have e : er (mayS l k n m) = er (mayI l k n) := by simp at hk; simp [er, mayS, hk]
        clear hk
        go_wp2_with fail
        go_ret
        exact ⟨by first | (rw [e]; rfl) | rfl, hb⟩

set_option maxHeartbeats 400000 in
theorem mayL_any (l c : Int) (w : World) :
    Calls Try.prog 68 #[.agg #[.int .u8 l, .int .u32 c]] w fun e w' =>
      e = .returned (.bool (mayL l)) ∧ Below w.heap.size w w' := by
  go_enter Try.func68, Try.ntmps68
  go_wp2
  go_ret
  exact ⟨by simp [mayL], by go_grown⟩

set_option maxHeartbeats 400000 in
theorem mayHandle_any (l c k : Int) (w : World) :
    Calls Try.prog 63 #[.agg #[.int .u8 l, .int .u32 c, .int .u8 k]] w fun e w' =>
      e = .returned (.bool (mayH l k)) ∧ Below w.heap.size w w' := by
  go_enter Try.func63, Try.ntmps63
  go_wp2_with fail
  go_call mayL_any l c _ as e w1 ⟨rfl, b1⟩
  have hb : Below w.heap.size w w1 := (show Below w.heap.size w _ by go_grown).trans (b1.mono (by simp))
  have k2 := keep b1 (a := ⟨w.heap.size, 2, none⟩) (v := .int .u8 k) (by simp)
  clear b1
  have e : mayH l k = (mayL l && decide (k < 8)) := rfl
  generalize mayL l = b at *
  cases b
  all_goals
    go_wp2_with fail
    go_ret
    exact ⟨by first | (rw [e]; rfl) | rfl, hb⟩

set_option maxHeartbeats 400000 in
theorem mayId_any (l c k n : Int) (w : World) :
    Calls Try.prog 66 #[.agg #[.int .u8 l, .int .u32 c, .int .u8 k, .int .i64 n]] w fun e w' =>
      e = .returned (.bool (mayI l k n)) ∧ Below w.heap.size w w' := by
  go_enter Try.func66, Try.ntmps66
  go_wp2_with fail
  go_call mayHandle_any l c k _ as e w1 ⟨rfl, b1⟩
  have hb : Below w.heap.size w w1 := (show Below w.heap.size w _ by go_grown).trans (b1.mono (by simp))
  have k3 := keep b1 (a := ⟨w.heap.size, 3, none⟩) (v := .int .i64 n) (by simp)
  clear b1
  have e : mayI l k n = (mayH l k && (decide (1 ≤ n) && decide (n ≤ 1099511627776))) := by simp [mayI]
  generalize mayH l k = b at *
  generalize hc : decide (1 ≤ n) = b1 at e
  cases b <;> cases b1
  all_goals
    go_wp2_with fail
    go_ret
    exact ⟨by first | (rw [e]; rfl) | rfl, hb⟩

set_option maxHeartbeats 400000 in
theorem maySpan_any (l c k n m : Int) (hm0 : -9223372036854775808 ≤ m) (w : World) :
    Calls Try.prog 64 #[.agg #[.int .u8 l, .int .u32 c, .int .u8 k, .int .i64 n, .int .i64 m]] w fun e w' =>
      e = .returned (.bool (mayS l k n m)) ∧ Below w.heap.size w w' := by
  go_enter Try.func64, Try.ntmps64
  go_wp2_with fail
  go_call mayId_any l c k n _ as e w1 ⟨rfl, b1⟩
  have hb : Below w.heap.size w w1 := (show Below w.heap.size w _ by go_grown).trans (b1.mono (by simp))
  have k3 := keep b1 (a := ⟨w.heap.size, 3, none⟩) (v := .int .i64 n) (by simp)
  have k4 := keep b1 (a := ⟨w.heap.size, 4, none⟩) (v := .int .i64 m) (by simp)
  clear b1
  generalize hx : mayI l k n = b
  by_cases h1 : 1 ≤ m
  · by_cases h2 : m ≤ 64
    · obtain ⟨r, hr⟩ : ∃ r, 1099511627777 - m = r := ⟨_, rfl⟩
      have e : mayS l k n m = (b && decide (n ≤ r)) := by rw [mayS, hx]; cases b; exact rfl; rw [Bool.true_and, Bool.true_and, decide_eq_decide]; omega
      have r0 : -9223372036854775808 ≤ r := by omega
      have r1 : r ≤ 9223372036854775807 := by omega
      have d1 : decide (1 ≤ m) = true := by simp; omega
      have d2 : decide (m ≤ 64) = true := by simp; omega
      clear hx h1 h2 hm0
      cases b
      all_goals
        go_wp2_with fail
        go_ret
        exact ⟨by first | (rw [e]; rfl) | rfl, hb⟩
    · have e : mayS l k n m = false := by simp [mayS]; omega
      have d1 : decide (1 ≤ m) = true := by simp; omega
      have d2 : decide (m ≤ 64) = false := by simp; omega
      clear hx h1 h2 hm0
      cases b
      all_goals
        go_wp2_with fail
        go_ret
        exact ⟨by first | (rw [e]; rfl) | rfl, hb⟩
  · have e : mayS l k n m = false := by simp [mayS]; omega
    have d1 : decide (1 ≤ m) = false := by simp; omega
    clear hx h1 hm0
    cases b
    all_goals
      go_wp2_with fail
      go_ret
      exact ⟨by first | (rw [e]; rfl) | rfl, hb⟩
end Go.Proofs.Ytbhglgcnoidddaa
