/-
  The document's own answers of layer 1: their contracts.
-/
import Derived.Test.YthjpiopnaaielaaLabK
namespace Go.Proofs.Ythjpiopnaaielaa
open Go.RowKit
set_option linter.unusedVariables false

set_option maxHeartbeats 400000 in
theorem rMay_any (l c : Int) (w : World) :
    Calls Try.prog 26 #[.agg #[.int .u8 l, .int .u32 c]] w fun e w' => e = .returned (.bool (decide (l ≤ 15))) ∧ Below w.heap.size w w' := by
  go_enter Try.func26, Try.ntmps26
  go_wp2
  go_ret
  exact ⟨rfl, by go_grown⟩

set_option maxHeartbeats 400000 in
theorem rCheck_any (l c : Int) (w : World) :
    Calls Try.prog 19 #[.agg #[.int .u8 l, .int .u32 c]] w fun e w' => e = .returned (.int .i64 (ck l)) ∧ Below w.heap.size w w' := by
  by_cases h : l ≤ 15
  all_goals
    go_enter Try.func19, Try.ntmps19
    go_wp2
    go_ret
    exact ⟨by simp [ck, h], by go_grown⟩

set_option maxHeartbeats 400000 in
theorem rHas_any (l : Int) (a n : Nat) (hn : n < 32) (ha : a < 4294967296) (w : World) :
    Calls Try.prog 28 #[.agg #[.int .u8 l, .int .u32 a], .int .i64 n] w fun e w' => e = .returned (.bool (a.testBit n)) ∧ Below w.heap.size w w' := by
  go_enter Try.func28, Try.ntmps28
  go_wp2
  go_ret
  refine ⟨?_, by go_grown⟩
  have e : (((a : Int) / 2 ^ n).tmod 2 == 1) = a.testBit n := by
    have h1 : (a : Int) / 2 ^ n = ((a / 2 ^ n : Nat) : Int) := by simp
    rw [h1, Int.tmod_eq_emod_of_nonneg (Int.natCast_nonneg _), Nat.testBit_eq_decide_div_mod_eq, Bool.eq_iff_iff]
    generalize a / 2 ^ n = m
    simp; omega
  simp only [← e]
  rfl

theorem rHas_of (l : Int) (a n : Nat) (w : World) (hn : n < 32) (ha : a < 4294967296) (t : Bool) (h : a.testBit n = t) :
    Calls Try.prog 28 #[.agg #[.int .u8 l, .int .u32 a], .int .i64 n] w fun e w' => e = .returned (.bool t) ∧ Below w.heap.size w w' := by subst h; exact rHas_any l a n hn ha w

set_option maxHeartbeats 400000 in
theorem rAhead_any (l c l' c' : Int) (h : Lab l c) (h' : Lab l' c') (w : World) :
    Calls Try.prog 22 #[.agg #[.int .u8 l, .int .u32 c], .agg #[.int .u8 l', .int .u32 c']] w fun e w' => e = .returned (.bool (aheadB l c l' c')) ∧ Below w.heap.size w w' := by
  obtain ⟨g1, g2, g3, g4⟩ := h
  obtain ⟨f1, f2, f3, f4⟩ := h'
  go_enter Try.func22, Try.ntmps22
  go_wp2
  go_ret
  refine ⟨?_, by go_grown⟩
  have e : decide (l * 4294967296 + c < l' * 4294967296 + c') = aheadB l c l' c' := by
    unfold aheadB
    split
    · simp only [decide_eq_decide]; omega
    · simp only [decide_eq_decide]; omega
  rw [← e]
  rfl

theorem rGreatest_any (w : World) : Calls Try.prog 17 #[] w fun e w' => e = .returned (.agg #[.int .u8 15, .int .u32 4294967295]) ∧ Below w.heap.size w w' := by
  go_enter Try.func17, Try.ntmps17
  go_wp2
  go_returns
  exact ⟨rfl, by go_grown⟩

/-- The first k bits of a are bits of b. -/
def sub (a b k : Nat) : Prop := ∀ n, n < k → a.testBit n = true → b.testBit n = true
theorem sub_step {a b k : Nat} (h : sub a b k) (hk : a.testBit k = true → b.testBit k = true) : sub a b (k + 1) := fun n hn ht => by
  by_cases e : n = k
  · subst e; exact hk ht
  · exact h n (by omega) ht
theorem and_of_sub {a b : Nat} (ha : a < 4294967296) (h : sub a b 32) : a &&& b = a := by
  apply Nat.eq_of_testBit_eq; intro i
  rw [Nat.testBit_and]
  cases h1 : a.testBit i
  · rfl
  · have hi : i < 32 := by
      rcases Nat.lt_or_ge i 32 with g | g
      · exact g
      · have := Nat.testBit_lt_two_pow (x := a) (i := i) (Nat.lt_of_lt_of_le ha (Nat.pow_le_pow_right (n := 2) (by omega) g))
        rw [this] at h1; cases h1
    rw [h i hi h1]; rfl
theorem not_and {a b k : Nat} (h1 : a.testBit k = true) (h2 : b.testBit k = false) : ¬ a &&& b = a := fun h => by
  have := congrArg (fun n => n.testBit k) h
  simp [h1, h2] at this

def LeqRel (w : World) (l l' : Int) (a b : Nat) (k : Nat) (wr : World) : Prop :=
  sub a b k ∧ Below w.heap.size w wr ∧ wr.cell? ⟨w.heap.size, 0, none⟩ = some (.int .u8 l) ∧ wr.cell? ⟨w.heap.size, 1, none⟩ = some (.int .u32 a) ∧
    wr.cell? ⟨w.heap.size + 1, 0, none⟩ = some (.int .u8 l') ∧ wr.cell? ⟨w.heap.size + 1, 1, none⟩ = some (.int .u32 b)

set_option maxHeartbeats 1000000 in
theorem rLeq_any (l l' : Int) (a b : Nat) (ha : a < 4294967296) (hb : b < 4294967296) (w : World) :
    Calls Try.prog 21 #[.agg #[.int .u8 l, .int .u32 a], .agg #[.int .u8 l', .int .u32 b]] w fun e w' => e = .returned (.bool (leqB l a l' b)) ∧ Below w.heap.size w w' := by
  go_enter Try.func21, Try.ntmps21
  go_wp2
  go_loopw [5] (fun i wr => ∃ k : Nat, k ≤ 32 ∧ i = .int .i64 k ∧ LeqRel w l l' a b k wr) (fun i _ => 32 - (intOf i).toNat)
  case atStart => exact ⟨0, by omega, rfl, fun n hn => by omega, by go_grown, by simp, by simp, by simp, by simp⟩
  case round =>
    obtain ⟨k, hk, rfl, hs, hB, k1, k2, k3, k4⟩ := hrel
    have HS := hid hs
    clear hs
    by_cases hlt : k < 32
    · have z := hB.size
      cases h1 : a.testBit k
      · go_wp2_with (refine wpList_past ?_; (have q1 := Past.all k1); (have q2 := Past.all k2); (have q3 := Past.all k3); (have q4 := Past.all k4); (repeat (go_big_quiet_step (first | exact quiet_below (rHas_of _ _ _ _ (by omega) (by omega) true (by assumption)) | exact quiet_below (rHas_of _ _ _ _ (by omega) (by omega) false (by assumption))))); (refine wpQuiet_nil ?_); (rintro w2 ⟨⟨_, hx⟩, rfl⟩); (replace hB := hB.trans (hx.mono hB.size)); (replace k1 := keep hx k1); (replace k2 := keep hx k2); (replace k3 := keep hx k3); (replace k4 := keep hx k4); (clear q1 q2 q3 q4 hx))
        exact ⟨⟨k + 1, by omega, by go_num, sub_step HS.out (by rw [h1]; intro h; cases h), hB, k1, k2, k3, k4⟩, by simp [intOf]; omega⟩
      · cases h2 : b.testBit k
        · go_wp2_with (refine wpList_past ?_; (have q1 := Past.all k1); (have q2 := Past.all k2); (have q3 := Past.all k3); (have q4 := Past.all k4); (repeat (go_big_quiet_step (first | exact quiet_below (rHas_of _ _ _ _ (by omega) (by omega) true (by assumption)) | exact quiet_below (rHas_of _ _ _ _ (by omega) (by omega) false (by assumption))))); (refine wpQuiet_nil ?_); (rintro w2 ⟨⟨_, hx⟩, rfl⟩); (replace hB := hB.trans (hx.mono hB.size)); (replace k1 := keep hx k1); (replace k2 := keep hx k2); (replace k3 := keep hx k3); (replace k4 := keep hx k4); (clear q1 q2 q3 q4 hx))
          go_ret
          refine ⟨?_, hB⟩
          have e : leqB l a l' b = false := by
            cases e : leqB l a l' b
            · rfl
            · exact absurd ((leqB_nat l l' a b ha hb).1 e).2 (not_and h1 h2)
          rw [e]; rfl
        · go_wp2_with (refine wpList_past ?_; (have q1 := Past.all k1); (have q2 := Past.all k2); (have q3 := Past.all k3); (have q4 := Past.all k4); (repeat (go_big_quiet_step (first | exact quiet_below (rHas_of _ _ _ _ (by omega) (by omega) true (by assumption)) | exact quiet_below (rHas_of _ _ _ _ (by omega) (by omega) false (by assumption))))); (refine wpQuiet_nil ?_); (rintro w2 ⟨⟨_, hx⟩, rfl⟩); (replace hB := hB.trans (hx.mono hB.size)); (replace k1 := keep hx k1); (replace k2 := keep hx k2); (replace k3 := keep hx k3); (replace k4 := keep hx k4); (clear q1 q2 q3 q4 hx))
          exact ⟨⟨k + 1, by omega, by go_num, sub_step HS.out (fun _ => h2), hB, k1, k2, k3, k4⟩, by simp [intOf]; omega⟩
    · obtain rfl : k = 32 := by omega
      go_wp2
      go_ret
      refine ⟨?_, hB⟩
      have e : decide (l ≤ l') = leqB l a l' b := by
        rw [Bool.eq_iff_iff, leqB_nat l l' a b ha hb]
        simp [and_of_sub ha HS.out]
      rw [← e]; rfl

/-! Put -/
structure PutRel (w : World) (l l' : Int) (a b x : Nat) (wr : World) : Prop where
  hB : Below w.heap.size w wr
  k1 : wr.cell? ⟨w.heap.size, 0, none⟩ = some (.int .u8 l)
  k2 : wr.cell? ⟨w.heap.size, 1, none⟩ = some (.int .u32 a)
  k3 : wr.cell? ⟨w.heap.size + 1, 0, none⟩ = some (.int .u8 l')
  k4 : wr.cell? ⟨w.heap.size + 1, 1, none⟩ = some (.int .u32 b)
  k5 : wr.cell? ⟨w.heap.size + 1 + 1, 0, none⟩ = some (.int .u8 0)
  k6 : wr.cell? ⟨w.heap.size + 1 + 1, 1, none⟩ = some (.int .u32 0)
  k7 : wr.cell? ⟨w.heap.size + 1 + 1 + 1, 0, none⟩ = some (.int .u8 0)
  k8 : wr.cell? ⟨w.heap.size + 1 + 1 + 1, 1, none⟩ = some (.int .u32 x)
  f5 : wr.frozen? ⟨w.heap.size + 1 + 1, 0, none⟩ = false
  f6 : wr.frozen? ⟨w.heap.size + 1 + 1, 1, none⟩ = false
  f7 : wr.frozen? ⟨w.heap.size + 1 + 1 + 1, 0, none⟩ = false
  f8 : wr.frozen? ⟨w.heap.size + 1 + 1 + 1, 1, none⟩ = false

/-- Behind k rounds: the next bit, and the first k bits of what comes of it. -/
structure Bits (r k t x : Nat) : Prop where
  t_eq : t = 2 ^ k % 4294967296
  x_eq : x = r % 2 ^ k

theorem Bits.zero (r : Nat) : Bits r 0 1 0 := ⟨by simp, by simp [Nat.mod_one]⟩
theorem Bits.bounds {r k t x : Nat} (h : Bits r k t x) (hk : k < 32) : t ≤ 2147483648 ∧ x < t := by
  have h1 : 2 ^ k ≤ 2 ^ 31 := Nat.pow_le_pow_right (by omega) (by omega)
  have h2 : r % 2 ^ k < 2 ^ k := Nat.mod_lt _ (Nat.two_pow_pos k)
  have h3 := h.t_eq
  have h4 := h.x_eq
  generalize 2 ^ k = m at *
  omega
theorem Bits.step {r k t x t' x' : Nat} (h : Bits r k t x) (hk : k < 32) (ht : t' = t * 2 % 4294967296) (hx : x' = if r.testBit k then x + t else x) : Bits r (k + 1) t' x' := by
  have h1 : 2 ^ k ≤ 2 ^ 31 := Nat.pow_le_pow_right (by omega) (by omega)
  have h3 := h.t_eq
  have h4 := h.x_eq
  have h5 : t = 2 ^ k := by rw [h3]; exact Nat.mod_eq_of_lt (Nat.lt_of_le_of_lt h1 (by decide))
  refine ⟨by rw [ht, h5, Nat.pow_succ], ?_⟩
  have h6 : r % 2 ^ (k + 1) = r % 2 ^ k + 2 ^ k * (r / 2 ^ k % 2) := Nat.mod_pow_succ
  rw [hx, h6, ← h4, h5, Nat.testBit_eq_decide_div_mod_eq]
  have h7 : r / 2 ^ k % 2 = 0 ∨ r / 2 ^ k % 2 = 1 := by omega
  rcases h7 with h7 | h7 <;> simp [h7]
end Go.Proofs.Ythjpiopnaaielaa
