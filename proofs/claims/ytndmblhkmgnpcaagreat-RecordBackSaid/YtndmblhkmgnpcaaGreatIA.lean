/-
  The plain mathematics between an id's bytes and what bytes tell: there and back.
-/
import Derived.Test.YtndmblhkmgnpcaaGreatRows
import Derived.Test.YtndmblhkmgnpcaaGreatBase
import Derived.Test.YtndmblhkmgnpcaaGreatRA
import Derived.Test.YtndmblhkmgnpcaaGreatMem
import Derived.Outline
import Derived.LoopTactic
import Derived.WalkMore
import Derived.Deep.LoopGhost
import Derived.BigRegion
import Derived.Deep.RegionHeld
namespace Go.Proofs.YtndmblhkmgnpcaaGreat
open Go.RowKit
set_option linter.unusedVariables false

theorem below_in {w W w1 : World} (h : Below w.heap.size w W) (b : Below W.heap.size W w1) : Below w.heap.size w w1 := h.trans (b.mono h.size)

theorem past_alloc {w w2 : World} {o : Obj} (b : Below (w.alloc o).heap.size (w.alloc o) w2) : Below w.heap.size w w2 := ((Below.refl _ w).alloc (Nat.le_refl _) o).trans (b.mono (by simp))
theorem past_alloc2 {w w2 : World} {o p : Obj} (b : Below ((w.alloc o).alloc p).heap.size ((w.alloc o).alloc p) w2) : Below w.heap.size w w2 := past_alloc (past_alloc b)
theorem past_alloc3 {w w2 : World} {o p q : Obj} (b : Below (((w.alloc o).alloc p).alloc q).heap.size (((w.alloc o).alloc p).alloc q) w2) : Below w.heap.size w w2 := past_alloc (past_alloc2 b)
theorem set3 {w w' : World} {b g : Nat} (h : Below b w w') (hg : b ≤ g) (x y z : Value) : Below b w (((w'.setCell ⟨g, 0, none⟩ x).setCell ⟨g, 1, none⟩ y).setCell ⟨g, 2, none⟩ z) := ((h.setCell hg _).setCell hg _).setCell hg _
theorem set4 {w w' : World} {b g : Nat} (h : Below b w w') (hg : b ≤ g) (x y z u : Value) : Below b w ((((w'.setCell ⟨g, 0, none⟩ x).setCell ⟨g, 1, none⟩ y).setCell ⟨g, 2, none⟩ z).setCell ⟨g, 3, none⟩ u) := (set3 h hg x y z).setCell hg _
theorem set5 {w w' : World} {b g : Nat} (h : Below b w w') (hg : b ≤ g) (x y z u t : Value) : Below b w (((((w'.setCell ⟨g, 0, none⟩ x).setCell ⟨g, 1, none⟩ y).setCell ⟨g, 2, none⟩ z).setCell ⟨g, 3, none⟩ u).setCell ⟨g, 4, none⟩ t) := (set4 h hg x y z u).setCell hg _

def er (b : Bool) : Int := if b then 0 else 8
def mayL (l : Int) : Bool := decide (l ≤ 15)
def mayH (l k : Int) : Bool := mayL l && decide (k < 8)
def mayI (l k n : Int) : Bool := mayH l k && decide (1 ≤ n ∧ n ≤ 1099511627776)
def mayS (l k n m : Int) : Bool := mayI l k n && decide (1 ≤ m ∧ m ≤ 64 ∧ n + m ≤ 1099511627777)

set_option maxHeartbeats 400000 in
theorem check_any (l c : Int) (w : World) :
    Calls Tryz.prog 86 #[.agg #[.int .u8 l, .int .u32 c]] w fun e w' =>
      e = .returned (.int .i64 (er (mayL l))) ∧ Below w.heap.size w w' := by
  go_enter Tryz.func86, Tryz.ntmps86
  go_wp2
  all_goals (go_returns; exact ⟨by simp [er, mayL, *] <;> omega, by go_grown⟩)

set_option maxHeartbeats 400000 in
theorem checkHandle_any (l c k : Int) (w : World) :
    Calls Tryz.prog 60 #[.agg #[.int .u8 l, .int .u32 c, .int .u8 k]] w fun e w' =>
      e = .returned (.int .i64 (er (mayH l k))) ∧ Below w.heap.size w w' := by
  go_enter Tryz.func60, Tryz.ntmps60
  by_cases h : k < 8
  · have h1 : decide (8 ≤ k) = false := by simp; omega
    have H := hid h; clear h
    go_wp2_with fail
    go_call check_any l c _ as e w1 ⟨rfl, b1⟩
    go_wp2
    go_ret
    exact ⟨by simp [mayH, H.out], (show Below w.heap.size w _ by go_grown).trans (b1.mono (by simp))⟩
  · have h1 : decide (8 ≤ k) = true := by simp; omega
    go_wp2_with fail
    go_ret
    exact ⟨by simp [mayH, er, h], by go_grown⟩

set_option maxHeartbeats 400000 in
theorem behind_any (l c k n m r : Int) (w : World) (hr : n + m = r) (h0 : -9223372036854775808 ≤ r) (h1 : r ≤ 9223372036854775807) :
    Calls Tryz.prog 145 #[.agg #[.int .u8 l, .int .u32 c, .int .u8 k, .int .i64 n], .int .i64 m] w fun e w' =>
      e = .returned (.agg #[.int .u8 l, .int .u32 c, .int .u8 k, .int .i64 r]) ∧ Below w.heap.size w w' := by
  go_enter Tryz.func145, Tryz.ntmps145
  go_wp2
  go_returns
  exact ⟨rfl, by go_grown⟩

set_option maxHeartbeats 400000 in
theorem check_id (l c k n : Int) (w : World) :
    Calls Tryz.prog 144 #[.agg #[.int .u8 l, .int .u32 c, .int .u8 k, .int .i64 n]] w fun e w' =>
      e = .returned (.int .i64 (er (mayI l k n))) ∧ Below w.heap.size w w' := by
  go_enter Tryz.func144, Tryz.ntmps144
  by_cases h : n < 1
  · have h1 : decide (n < 1) = true := by simp; omega
    have e : er (mayI l k n) = 8 := by simp [er, mayI]; omega
    go_wp2_with fail
    go_ret
    exact ⟨by first | (rw [e]; rfl) | rfl, by go_grown⟩
  · have h1 : decide (n < 1) = false := by simp; omega
    by_cases g : 1099511627776 < n
    · have g1 : decide (1099511627776 < n) = true := by simp; omega
      have e : er (mayI l k n) = 8 := by simp [er, mayI]; omega
      have H := hid h; have G := hid g; clear h g
      go_wp2_with fail
      go_ret
      exact ⟨by first | (rw [e]; rfl) | rfl, by go_grown⟩
    · have g1 : decide (1099511627776 < n) = false := by simp; omega
      have e : mayI l k n = mayH l k := by simp [mayI]; omega
      have H := hid h; have G := hid g; clear h g
      go_wp2_with fail
      go_call checkHandle_any l c k _ as e w1 ⟨rfl, b1⟩
      go_wp2
      go_ret
      exact ⟨by first | (rw [e]; rfl) | rfl, (show Below w.heap.size w _ by go_grown).trans (b1.mono (by simp))⟩

set_option maxHeartbeats 400000 in
theorem checkSpan_any (l c k n m : Int) (w : World) :
    Calls Tryz.prog 112 #[.agg #[.int .u8 l, .int .u32 c, .int .u8 k, .int .i64 n, .int .i64 m]] w fun e w' =>
      e = .returned (.int .i64 (er (mayS l k n m))) ∧ Below w.heap.size w w' := by
  go_enter Tryz.func112, Tryz.ntmps112
  by_cases h : m < 1
  · have h1 : decide (m < 1) = true := by simp; omega
    have e : er (mayS l k n m) = 8 := by simp [er, mayS]; omega
    go_wp2_with fail
    go_ret
    exact ⟨by first | (rw [e]; rfl) | rfl, by go_grown⟩
  · have h1 : decide (m < 1) = false := by simp; omega
    by_cases g : 64 < m
    · have g1 : decide (64 < m) = true := by simp; omega
      have e : er (mayS l k n m) = 8 := by simp [er, mayS]; omega
      have H := hid h; have G := hid g; clear h g
      go_wp2_with fail
      go_ret
      exact ⟨by first | (rw [e]; rfl) | rfl, by go_grown⟩
    · have g1 : decide (64 < m) = false := by simp; omega
      have H := hid h; have G := hid g; clear h g
      go_wp2_with fail
      go_call check_id l c k n _ as e w1 ⟨rfl, b1⟩
      have hb : Below w.heap.size w w1 := (show Below w.heap.size w _ by go_grown).trans (b1.mono (by simp))
      have k0 := keep b1 (a := ⟨w.heap.size, 0, none⟩) (v := .int .u8 l) (by simp)
      have k1 := keep b1 (a := ⟨w.heap.size, 1, none⟩) (v := .int .u32 c) (by simp)
      have k2 := keep b1 (a := ⟨w.heap.size, 2, none⟩) (v := .int .u8 k) (by simp)
      have k3 := keep b1 (a := ⟨w.heap.size, 3, none⟩) (v := .int .i64 n) (by simp)
      have k4 := keep b1 (a := ⟨w.heap.size, 4, none⟩) (v := .int .i64 m) (by simp)
      clear b1
      by_cases hk : mayI l k n = true
      · have hk1 : (er (mayI l k n) != 0) = false := by rw [hk]; rfl
        have hn : 1 ≤ n ∧ n ≤ 1099511627776 := by simp [mayI] at hk; omega
        obtain ⟨r, hr⟩ : ∃ r, m - 1 = r := ⟨_, rfl⟩
        obtain ⟨q, hq⟩ : ∃ q, n + r = q := ⟨_, rfl⟩
        have e : mayS l k n m = mayI l k q := by
          have := H.out; have := G.out
          simp only [mayI, Bool.and_eq_true] at hk
          simp only [mayS, mayI, hk.1, Bool.true_and]
          rw [Bool.eq_iff_iff]; simp; omega
        have R0 := H.out; have R1 := G.out
        have b0 : -9223372036854775808 ≤ q := by omega
        have b1 : q ≤ 9223372036854775807 := by omega
        have r0 : -9223372036854775808 ≤ r := by omega
        have r1 : r ≤ 9223372036854775807 := by omega
        have Q := hid hq
        clear hk hn R0 R1 hq
        go_wp2_with fail
        refine (behind_any l c k n r q _ Q.out b0 b1).mono ?_
        rintro e' w2 ⟨rfl, b2⟩
        go_wp2_with fail
        go_call check_id l c k q _ as e' w3 ⟨rfl, b3⟩
        go_wp2
        go_ret
        exact ⟨by first | (rw [e]; rfl) | rfl, (hb.trans (b2.mono hb.size)).trans (b3.mono (Nat.le_trans hb.size b2.size))⟩
      · have hk1 : (er (mayI l k n) != 0) = true := by simp at hk; rw [hk]; rfl
        have e : er (mayS l k n m) = er (mayI l k n) := by simp at hk; simp [er, mayS, hk]
        clear hk
        go_wp2_with fail
        go_ret
        exact ⟨by first | (rw [e]; rfl) | rfl, hb⟩

set_option maxHeartbeats 400000 in
theorem mayL_any (l c : Int) (w : World) :
    Calls Tryz.prog 91 #[.agg #[.int .u8 l, .int .u32 c]] w fun e w' =>
      e = .returned (.bool (mayL l)) ∧ Below w.heap.size w w' := by
  go_enter Tryz.func91, Tryz.ntmps91
  go_wp2
  go_ret
  exact ⟨by simp [mayL], by go_grown⟩

set_option maxHeartbeats 400000 in
theorem mayHandle_any (l c k : Int) (w : World) :
    Calls Tryz.prog 65 #[.agg #[.int .u8 l, .int .u32 c, .int .u8 k]] w fun e w' =>
      e = .returned (.bool (mayH l k)) ∧ Below w.heap.size w w' := by
  go_enter Tryz.func65, Tryz.ntmps65
  go_wp2_with fail
  go_call mayL_any l c _ as e w1 ⟨rfl, b1⟩
  have hb : Below w.heap.size w w1 := (show Below w.heap.size w _ by go_grown).trans (b1.mono (by simp))
  have k2 := keep b1 (a := ⟨w.heap.size, 2, none⟩) (v := .int .u8 k) (by simp)
  clear b1
  have e : mayH l k = (mayL l && decide (k < 8)) := rfl
  generalize mayL l = b at *
  cases b
  all_goals
    go_wp2_with fail
    go_ret
    exact ⟨by first | (rw [e]; rfl) | rfl, hb⟩

set_option maxHeartbeats 400000 in
theorem mayId_any (l c k n : Int) (w : World) :
    Calls Tryz.prog 94 #[.agg #[.int .u8 l, .int .u32 c, .int .u8 k, .int .i64 n]] w fun e w' =>
      e = .returned (.bool (mayI l k n)) ∧ Below w.heap.size w w' := by
  go_enter Tryz.func94, Tryz.ntmps94
  go_wp2_with fail
  go_call mayHandle_any l c k _ as e w1 ⟨rfl, b1⟩
  have hb : Below w.heap.size w w1 := (show Below w.heap.size w _ by go_grown).trans (b1.mono (by simp))
  have k3 := keep b1 (a := ⟨w.heap.size, 3, none⟩) (v := .int .i64 n) (by simp)
  clear b1
  have e : mayI l k n = (mayH l k && (decide (1 ≤ n) && decide (n ≤ 1099511627776))) := by simp [mayI]
  generalize mayH l k = b at *
  generalize hc : decide (1 ≤ n) = b1 at e
  cases b <;> cases b1
  all_goals
    go_wp2_with fail
    go_ret
    exact ⟨by first | (rw [e]; rfl) | rfl, hb⟩

set_option maxHeartbeats 400000 in
theorem maySpan_any (l c k n m : Int) (hm0 : -9223372036854775808 ≤ m) (w : World) :
    Calls Tryz.prog 92 #[.agg #[.int .u8 l, .int .u32 c, .int .u8 k, .int .i64 n, .int .i64 m]] w fun e w' =>
      e = .returned (.bool (mayS l k n m)) ∧ Below w.heap.size w w' := by
  go_enter Tryz.func92, Tryz.ntmps92
  go_wp2_with fail
  go_call mayId_any l c k n _ as e w1 ⟨rfl, b1⟩
  have hb : Below w.heap.size w w1 := (show Below w.heap.size w _ by go_grown).trans (b1.mono (by simp))
  have k3 := keep b1 (a := ⟨w.heap.size, 3, none⟩) (v := .int .i64 n) (by simp)
  have k4 := keep b1 (a := ⟨w.heap.size, 4, none⟩) (v := .int .i64 m) (by simp)
  clear b1
  generalize hx : mayI l k n = b
  by_cases h1 : 1 ≤ m
  · by_cases h2 : m ≤ 64
    · obtain ⟨r, hr⟩ : ∃ r, 1099511627777 - m = r := ⟨_, rfl⟩
      have e : mayS l k n m = (b && decide (n ≤ r)) := by rw [mayS, hx]; cases b; exact rfl; rw [Bool.true_and, Bool.true_and, decide_eq_decide]; omega
      have r0 : -9223372036854775808 ≤ r := by omega
      have r1 : r ≤ 9223372036854775807 := by omega
      have d1 : decide (1 ≤ m) = true := by simp; omega
      have d2 : decide (m ≤ 64) = true := by simp; omega
      clear hx h1 h2 hm0
      cases b
      all_goals
        go_wp2_with fail
        go_ret
        exact ⟨by first | (rw [e]; rfl) | rfl, hb⟩
    · have e : mayS l k n m = false := by simp [mayS]; omega
      have d1 : decide (1 ≤ m) = true := by simp; omega
      have d2 : decide (m ≤ 64) = false := by simp; omega
      clear hx h1 h2 hm0
      cases b
      all_goals
        go_wp2_with fail
        go_ret
        exact ⟨by first | (rw [e]; rfl) | rfl, hb⟩
  · have e : mayS l k n m = false := by simp [mayS]; omega
    have d1 : decide (1 ≤ m) = false := by simp; omega
    clear hx h1 hm0
    cases b
    all_goals
      go_wp2_with fail
      go_ret
      exact ⟨by first | (rw [e]; rfl) | rfl, hb⟩
end Go.Proofs.YtndmblhkmgnpcaaGreat

namespace Go.Proofs.YtndmblhkmgnpcaaGreat
open Go.RowKit
set_option linter.unusedVariables false

def sameL (l c l' c' : Int) : Bool := l == l' && c == c'
def sameI (l c k n l' c' k' n' : Int) : Bool := l == l' && c == c' && k == k' && n == n'
def sameH (l c k l' c' k' : Int) : Bool := l == l' && c == c' && k == k'
def sameS (l c k n m l' c' k' n' m' : Int) : Bool := l == l' && c == c' && k == k' && n == n' && m == m'

theorem stoodL : Tryz.prog.stoodInHeld 24 = false := by kernel_rfl
theorem stoodH : Tryz.prog.stoodInHeld 26 = false := by kernel_rfl
theorem stoodI : Tryz.prog.stoodInHeld 28 = false := by kernel_rfl
theorem stoodS : Tryz.prog.stoodInHeld 30 = false := by kernel_rfl

theorem eql_label (w : World) (a b c d : Int) : (binOp .eql 24 (.agg #[.int .u8 a, .int .u32 b]) (.agg #[.int .u8 c, .int .u32 d])).run Tryz.prog w = .ok (.bool (sameL a b c d)) w := by
  have e1 := stoodL
  unfold sameL
  by_cases h1 : a = c <;> by_cases h2 : b = d <;> simp [go_sem, e1, h1, h2]
theorem neq_label (w : World) (a b c d : Int) : (binOp .neq 24 (.agg #[.int .u8 a, .int .u32 b]) (.agg #[.int .u8 c, .int .u32 d])).run Tryz.prog w = .ok (.bool (!sameL a b c d)) w := by
  have e1 := stoodL
  unfold sameL
  by_cases h1 : a = c <;> by_cases h2 : b = d <;> simp [go_sem, e1, h1, h2]
theorem eql_id (w : World) (a b c d a' b' c' d' : Int) : (binOp .eql 28 (.agg #[.int .u8 a, .int .u32 b, .int .u8 c, .int .i64 d]) (.agg #[.int .u8 a', .int .u32 b', .int .u8 c', .int .i64 d'])).run Tryz.prog w = .ok (.bool (sameI a b c d a' b' c' d')) w := by
  have e1 := stoodI
  unfold sameI
  by_cases h1 : a = a' <;> by_cases h2 : b = b' <;> by_cases h3 : c = c' <;> by_cases h4 : d = d' <;> simp [go_sem, e1, h1, h2, h3, h4]
theorem neq_id (w : World) (a b c d a' b' c' d' : Int) : (binOp .neq 28 (.agg #[.int .u8 a, .int .u32 b, .int .u8 c, .int .i64 d]) (.agg #[.int .u8 a', .int .u32 b', .int .u8 c', .int .i64 d'])).run Tryz.prog w = .ok (.bool (!sameI a b c d a' b' c' d')) w := by
  have e1 := stoodI
  unfold sameI
  by_cases h1 : a = a' <;> by_cases h2 : b = b' <;> by_cases h3 : c = c' <;> by_cases h4 : d = d' <;> simp [go_sem, e1, h1, h2, h3, h4]
theorem eql_handle (w : World) (a b c a' b' c' : Int) : (binOp .eql 26 (.agg #[.int .u8 a, .int .u32 b, .int .u8 c]) (.agg #[.int .u8 a', .int .u32 b', .int .u8 c'])).run Tryz.prog w = .ok (.bool (sameH a b c a' b' c')) w := by
  have e1 := stoodH
  unfold sameH
  by_cases h1 : a = a' <;> by_cases h2 : b = b' <;> by_cases h3 : c = c' <;> simp [go_sem, e1, h1, h2, h3]
set_option maxHeartbeats 400000 in
theorem eql_span (w : World) (a b c d m a' b' c' d' m' : Int) : (binOp .eql 30 (.agg #[.int .u8 a, .int .u32 b, .int .u8 c, .int .i64 d, .int .i64 m]) (.agg #[.int .u8 a', .int .u32 b', .int .u8 c', .int .i64 d', .int .i64 m'])).run Tryz.prog w = .ok (.bool (sameS a b c d m a' b' c' d' m')) w := by
  have e1 := stoodS
  unfold sameS
  by_cases h1 : a = a' <;> by_cases h2 : b = b' <;> by_cases h3 : c = c' <;> by_cases h4 : d = d' <;> by_cases h5 : m = m' <;> simp [go_sem, e1, h1, h2, h3, h4, h5]

end Go.Proofs.YtndmblhkmgnpcaaGreat

namespace Go.Proofs.YtndmblhkmgnpcaaGreat
set_option linter.unusedVariables false

/-- The k lowest digits, the highest first. -/
def dg : Nat → Nat → List UInt8
  | 0, _ => []
  | k + 1, n => dg k (n / 256) ++ [UInt8.ofNat (n % 256)]
theorem dg_length : ∀ (k n : Nat), (dg k n).length = k
  | 0, _ => rfl
  | k + 1, n => by simp [dg, dg_length k]

def vl (l : List UInt8) : Nat := l.foldl (fun a b => a * 256 + b.toNat) 0
theorem vl_snoc (l : List UInt8) (b : UInt8) : vl (l ++ [b]) = vl l * 256 + b.toNat := by simp [vl]
theorem vl_lt (l : List UInt8) : vl l < 256 ^ l.length := by
  rw [← List.reverse_reverse l]
  generalize l.reverse = r
  induction r with
  | nil => decide
  | cons b r ih =>
    simp only [List.reverse_cons, vl_snoc, List.length_append, List.length_cons, List.length_nil, Nat.zero_add]
    have := b.toNat_lt
    rw [Nat.pow_succ]; omega
theorem ofNat_toNat {n : Nat} (h : n < 256) : (UInt8.ofNat n).toNat = n := by
  rw [UInt8.toNat_ofNat']; omega
theorem vl_dg : ∀ (k n : Nat), n < 256 ^ k → vl (dg k n) = n
  | 0, n, h => by
    have : n = 0 := by simpa using h
    subst this; rfl
  | k + 1, n, h => by
    rw [dg, vl_snoc, vl_dg k (n / 256) (by rw [Nat.pow_succ] at h; omega), ofNat_toNat (by omega)]
    omega
theorem dg_vl (l : List UInt8) : dg l.length (vl l) = l := by
  rw [← List.reverse_reverse l]
  generalize l.reverse = r
  induction r with
  | nil => rfl
  | cons b r ih =>
    simp only [List.reverse_cons, List.length_append, List.length_cons, List.length_nil, Nat.zero_add, vl_snoc]
    have hb := b.toNat_lt
    have e1 : (vl r.reverse * 256 + b.toNat) / 256 = vl r.reverse := by omega
    have e2 : (vl r.reverse * 256 + b.toNat) % 256 = b.toNat := by omega
    rw [dg, e1, e2, ih]
    simp

/-- One digit more, from above. -/
theorem dg_up (x k j : Nat) (hj : j < k) : dg (j + 1) (x / 256 ^ (k - (j + 1))) = dg j (x / 256 ^ (k - j)) ++ [UInt8.ofNat (x / 256 ^ (k - (j + 1)) % 256)] := by
  have e : (k - (j + 1)).succ = k - j := by omega
  rw [dg, Nat.div_div_eq_div_mul, ← Nat.pow_succ, e]

/-- A handle's bytes, and an id's. -/
def hby (l c k : Nat) : List UInt8 := [UInt8.ofNat l] ++ dg 4 c ++ [UInt8.ofNat k]
def iby (l c k n : Nat) : List UInt8 := hby l c k ++ dg 7 n
theorem hby_length (l c k : Nat) : (hby l c k).length = 6 := by simp [hby, dg_length]
theorem iby_length (l c k n : Nat) : (iby l c k n).length = 13 := by simp [iby, hby_length, dg_length]
end Go.Proofs.YtndmblhkmgnpcaaGreat

namespace Go.Proofs.YtndmblhkmgnpcaaGreat
open Go.RowKit
set_option linter.unusedVariables false

/-- The numbers of a label are of their kinds. -/
structure Lab (l c : Int) : Prop where
  l0 : 0 ≤ l
  l1 : l ≤ 255
  c0 : 0 ≤ c
  c1 : c ≤ 4294967295

def pick (b : Bool) (x : Int) : Int := if b then x else 0
theorem pick_true (x : Int) : pick true x = x := rfl
theorem pick_false (x : Int) : pick false x = 0 := rfl
theorem lit_one (w : World) (v : Int) (b : UInt8) (h : Hid (v = (b.toNat : Int))) : Rd (w.alloc (.cells #[.int .u8 v] 5)) (some ⟨w.heap.size, 0, none⟩) 1 [b] := by
  rw [h.out]
  exact lit_rd w [b] (by simp)
theorem own_one (w : World) (base g : Nat) (hg : w.heap.size = g) (hb : base ≤ g) (v : Int) (b : UInt8) (h : Hid (v = (b.toNat : Int))) : Own (w.alloc (.cells #[.int .u8 v] 5)) base 5 (some ⟨g, 0, none⟩) 1 [b] := by
  subst hg
  rw [h.out]
  exact Own.lit w _ [b] hb (by simp)
theorem Own.mono {w : World} {base base' : Nat} {e : TypeId} {A : Option Addr} {c : Nat} {l : List UInt8} (h : Own w base e A c l) (hb : base' ≤ base) : Own w base' e A c l := by
  obtain ⟨h0, h1⟩ := h
  refine ⟨h0, ?_⟩
  rcases h1 with h | ⟨g, cap, cur, hv, hbg, r⟩
  · exact .inl h
  · exact .inr ⟨g, cap, cur, hv, Nat.le_trans hb hbg, r⟩

theorem shr_nat (x : Nat) (z : Int) (hz : (x : Int) = z) (y : Int) (j : Nat) (hy : y = j) : z / 2 ^ (8 * y).toNat % 256 = ((UInt8.ofNat (x / 256 ^ j % 256)).toNat : Int) := by
  subst hz hy
  have e : (256 : Nat) ^ j = 2 ^ (8 * j) := by rw [Nat.pow_mul]
  rw [show (8 * (j : Int)).toNat = 8 * j by omega, ofNat_toNat (Nat.mod_lt _ (by decide)), e, Int.natCast_emod, Int.natCast_ediv, Int.natCast_pow]
  rfl

set_option maxRecDepth 100000 in
set_option maxHeartbeats 800000 in
theorem put_any (base : Nat) (A : Option Addr) (n c : Nat) (l : List UInt8) (hn : Hid (l.length = n)) (x : Nat) (z : Int) (hz : Hid ((x : Int) = z)) (z0 : 0 ≤ z) (z1 : z < 9223372036854775808) (k : Nat) (v : Int) (hv : Hid (v = (k : Int))) (w : World) (hn5 : n ≤ 1000) (hk5 : k ≤ 7)
    (hown : Own w base 5 A c l) (hbase : base ≤ w.heap.size) :
    Calls Tryz.prog 136 #[.slice A n c, .int .i64 z, .int .i64 v] w fun e w' => ∃ A' c', e = .returned (.slice A' (n + k) c') ∧ Own w' base 5 A' c' (l ++ dg k x) ∧ Below base w w' := by
  obtain ⟨i0, hi0, hz0, hz1, hz2⟩ := info_parts info_u8
  have hk7 : v ≤ 7 := by rw [hv.out]; omega
  have hk0 : 0 ≤ v := by rw [hv.out]; omega
  go_enter Tryz.func136, Tryz.ntmps136
  go_wp2
  go_loopw [0, 7] (fun b i wr => ∃ (j m : Nat) (B : Option Addr) (d : Nat) (y : Int), j ≤ k ∧ Hid (y = (k : Int) - 1 - j) ∧ -1 ≤ y ∧ y ≤ 6 ∧ i = .int .i64 y ∧ b = .slice B m d ∧ Hid (m = n + j) ∧ Hid ((l ++ dg j (x / 256 ^ (k - j))).length = m) ∧ Own wr base 5 B d (l ++ dg j (x / 256 ^ (k - j))) ∧ Below base w wr) (fun _ i _ => (intOf i + 1).toNat)
  case atStart => exact ⟨0, n, A, c, v - 1, by omega, hid (by rw [hv.out]; omega), by omega, by omega, rfl, rfl, hid rfl, hid (by simp [dg, hn.out]), by simpa [dg] using hown, Below.refl _ _⟩
  case round =>
    obtain ⟨j, m, B, d, y, hj, hy, hy0, hy1, rfl, rfl, hm, hw, ho, hb⟩ := hrel
    have hm2 : m ≤ 2000 := by have := hm.out; omega
    by_cases hlt : 0 ≤ y
    · have hjk : j < k := by have := hy.out; omega
      have HB := hid (shr_nat x z hz.out y (k - (j + 1)) (by rw [hy.out]; omega))
      have HU := hid (dg_up x k j hjk)
      have HM := hid (show m + 1 = n + (j + 1) by rw [hm.out]; omega)
      have HY := hid (show y - 1 = (k : Int) - 1 - ((j + 1 : Nat) : Int) by rw [hy.out]; omega)
      have HL := hid (show (l ++ dg (j + 1) (x / 256 ^ (k - (j + 1)))).length = m + 1 by rw [List.length_append, hn.out, dg_length, hm.out]; omega)
      generalize hU : UInt8.ofNat (x / 256 ^ (k - (j + 1)) % 256) = u at HB HU
      generalize hQ : z / 2 ^ (8 * y).toNat % 256 = q at HB
      have Hu := hid hU
      clear hU
      go_wp2_with (at_builtin; refine wpList_append_rd rfl (.tmp 14) (.tmp 20) _ rfl base 5 Tryz.underlying51 hi0 hz0 hz1 hz2 B m d (l ++ dg j (x / 256 ^ (k - j))) hw rfl (ho.keep ((Below.refl _ _).alloc (Nat.le_refl _) _)) (some ⟨wr.heap.size, 0, none⟩) 1 1 [u] (hid rfl) rfl (lit_one wr _ u HB) (by omega) (Nat.le_trans (Nat.le_trans hbase hb.size) (by simp)) ?_; intro B' d' w1 hown1 hb1)
      go_roundw
      case rel => exact ⟨j + 1, m + 1, B', d', y - 1, by omega, HY, by omega, by omega, rfl, rfl, HM, HL, by rw [HU.out, ← List.append_assoc]; exact hown1, (hb.alloc (Nat.le_trans hbase hb.size) _).trans hb1⟩
      case measure => simp [intOf]; omega
    · have hjk : j = k := by have := hy.out; omega
      have HK := hid hjk
      clear hjk
      go_wp2
      go_ret
      have e1 := hm.out
      have e2 := HK.out
      subst e1 e2
      rw [Nat.sub_self, Nat.pow_zero, Nat.div_one] at ho
      exact ⟨B, d, rfl, ho, hb⟩

/-- A handle that may be put: its numbers. -/
structure Hn (l c k : Int) (a b d : Nat) : Prop where
  la : (a : Int) = l
  cb : (b : Int) = c
  kd : (d : Int) = k
  a1 : a < 256
  b1 : b < 4294967296
  d1 : d < 256
theorem hn_of {l c k : Int} (h : Lab l c) (k0 : 0 ≤ k) (k1 : k ≤ 255) : Hn l c k l.toNat c.toNat k.toNat := by
  obtain ⟨g1, g2, g3, g4⟩ := h
  exact ⟨by omega, by omega, by omega, by omega, by omega, by omega⟩
theorem Hn.l_eq {l c k : Int} {a b d : Nat} (h : Hn l c k a b d) : l = ((UInt8.ofNat a).toNat : Int) := by rw [ofNat_toNat h.a1, h.la]
theorem Hn.k_eq {l c k : Int} {a b d : Nat} (h : Hn l c k a b d) : k = ((UInt8.ofNat d).toNat : Int) := by rw [ofNat_toNat h.d1, h.kd]

set_option maxRecDepth 100000 in
set_option maxHeartbeats 800000 in
theorem handleBytes_any (l c k : Int) (a b d : Nat) (h : Hid (Hn l c k a b d)) (w : World) :
    Calls Tryz.prog 108 #[.agg #[.int .u8 l, .int .u32 c, .int .u8 k]] w fun e w' => ∃ A' c', e = .returned (.slice A' 6 c') ∧ Own w' w.heap.size 5 A' c' (hby a b d) ∧ Below w.heap.size w w' := by
  obtain ⟨i0, hi0, hz0, hz1, hz2⟩ := info_parts info_u8
  have c0 : 0 ≤ c := by have := h.out.cb; omega
  have c1 : c < 9223372036854775808 := by have := h.out.cb; have := h.out.b1; omega
  have HL := hid h.out.l_eq
  have HK := hid h.out.k_eq
  have HC := hid h.out.cb
  go_enter Tryz.func108, Tryz.ntmps108
  go_wp2_with fail
  refine (put_any (w.heap.size + 1) _ 1 1 [UInt8.ofNat a] (hid rfl) b c HC c0 c1 4 4 (hid rfl) _ (by omega) (by omega) (own_one _ _ _ (by simp) (by omega) l _ HL) (by simp)).mono ?_
  rintro e w1 ⟨A1, c2, rfl, ho, hb⟩
  have hbo : Below w.heap.size w w1 := (show Below w.heap.size w _ by go_grown).trans (hb.mono (by omega))
  have k2 : w1.cell? ⟨w.heap.size, 2, none⟩ = some (.int .u8 k) := by rw [hb.cell (p := ⟨w.heap.size, 2, none⟩) (by simp)]; simp
  have z := hbo.size
  clear hb
  go_wp2_with (at_builtin; refine wpList_append_rd rfl (.tmp 13) (.tmp 16) _ rfl w.heap.size 5 Tryz.underlying51 hi0 hz0 hz1 hz2 A1 5 c2 ([UInt8.ofNat a] ++ dg 4 b) (hid (by simp [dg_length])) rfl ((ho.mono (by omega)).keep ((Below.refl _ _).alloc (Nat.le_refl _) _)) (some ⟨w1.heap.size, 0, none⟩) 1 1 [UInt8.ofNat d] (hid rfl) rfl (lit_one w1 _ _ HK) (by omega) (by simp; omega) ?_; intro A' c' w2 ho2 hb2)
  go_ret
  exact ⟨A', c', rfl, ho2, (hbo.alloc z _).trans hb2⟩

set_option maxHeartbeats 800000 in
theorem putHandle_of (L : List UInt8) (m : Nat) (j : Int) (l c k : Int) (a b d : Nat) (h : Hid (Hn l c k a b d)) (hL : Hid ((if mayH l k = true then hby a b d else []) = L ∧ L.length = m ∧ er (mayH l k) = j)) (w : World) :
    Calls Tryz.prog 80 #[.agg #[.int .u8 l, .int .u32 c, .int .u8 k]] w fun e w' => ∃ A' c', e = .returned (.tuple #[.slice A' m c', .int .i64 j]) ∧ Rd w' A' c' L ∧ Below w.heap.size w w' := by
  go_enter Tryz.func80, Tryz.ntmps80
  cases hq : mayH l k
  · obtain ⟨h1, h2, h3⟩ := hL.out
    rw [if_neg (by simp [hq])] at h1
    rw [hq] at h3
    subst h1 h2 h3
    have HQ := hid hq
    clear hq hL
    go_wp2_with fail
    refine (checkHandle_any l c k _).mono ?_
    rw [HQ.out]
    rintro e w1 ⟨rfl, b1⟩
    go_wp2_with fail
    go_ret2
    exact ⟨none, 0, rfl, Rd.nil _, below_in (by go_grown) b1⟩
  · obtain ⟨h1, h2, h3⟩ := hL.out
    rw [if_pos hq] at h1
    rw [hq] at h3
    rw [← h1, hby_length] at h2
    subst h1 h2 h3
    have HQ := hid hq
    clear hq hL
    go_wp2_with fail
    refine (checkHandle_any l c k _).mono ?_
    rw [HQ.out]
    rintro e w1 ⟨rfl, b1⟩
    have hb : Below w.heap.size w w1 := below_in (by go_grown) b1
    (have x0 : w1.cell? ⟨w.heap.size, 0, none⟩ = some (.int .u8 l) := (keep b1 (by simp)); have x1 : w1.cell? ⟨w.heap.size, 1, none⟩ = some (.int .u32 c) := (keep b1 (by simp)); have x2 : w1.cell? ⟨w.heap.size, 2, none⟩ = some (.int .u8 k) := (keep b1 (by simp)))
    clear b1
    go_wp2_with fail
    refine (handleBytes_any l c k a b d h _).mono ?_
    rintro e w2 ⟨A1, c1, rfl, ho, b1⟩
    go_wp2
    go_ret2
    exact ⟨A1, c1, rfl, ho.rd, below_in hb b1⟩

theorem below_step {wo W w2 : World} (h : Below wo.heap.size wo W) (h2 : Below W.heap.size W w2) : Below wo.heap.size wo w2 := h.trans (h2.mono h.size)

set_option maxHeartbeats 1600000 in
theorem putId_of (L : List UInt8) (m : Nat) (j : Int) (l c k n : Int) (a b d : Nat) (h : Hid (Hn l c k a b d)) (hL : Hid ((if mayI l k n = true then iby a b d n.toNat else []) = L ∧ L.length = m ∧ er (mayI l k n) = j)) (w : World) :
    Calls Tryz.prog 137 #[.agg #[.int .u8 l, .int .u32 c, .int .u8 k, .int .i64 n]] w fun e w' => ∃ A' c', e = .returned (.tuple #[.slice A' m c', .int .i64 j]) ∧ Rd w' A' c' L ∧ Below w.heap.size w w' := by
  go_enter Tryz.func137, Tryz.ntmps137
  cases hq : mayI l k n
  · obtain ⟨h1, h2, h3⟩ := hL.out
    rw [if_neg (by simp [hq])] at h1
    rw [hq] at h3
    subst h1 h2 h3
    have HQ := hid hq
    clear hq hL
    go_wp2_with fail
    refine (check_id l c k n _).mono ?_
    rw [HQ.out]
    rintro e w1 ⟨rfl, b1⟩
    go_wp2_with fail
    go_ret2
    exact ⟨none, 0, rfl, Rd.nil _, below_in (by go_grown) b1⟩
  · obtain ⟨h1, h2, h3⟩ := hL.out
    rw [if_pos hq] at h1
    rw [hq] at h3
    rw [← h1, iby_length] at h2
    subst h1 h2 h3
    have hn : 1 ≤ n ∧ n ≤ 1099511627776 := by simp [mayI] at hq; omega
    have n0 : 0 ≤ n := by omega
    have n1 : n < 9223372036854775808 := by omega
    have HN := hid (show ((n.toNat : Nat) : Int) = n by omega)
    have HQ := hid hq
    clear hq hL hn
    go_wp2_with fail
    refine (check_id l c k n _).mono ?_
    rw [HQ.out]
    rintro e w1 ⟨rfl, b1⟩
    have hb : Below w.heap.size w w1 := below_in (by go_grown) b1
    (have x0 : w1.cell? ⟨w.heap.size, 0, none⟩ = some (.int .u8 l) := (keep b1 (by simp)); have x1 : w1.cell? ⟨w.heap.size, 1, none⟩ = some (.int .u32 c) := (keep b1 (by simp)); have x2 : w1.cell? ⟨w.heap.size, 2, none⟩ = some (.int .u8 k) := (keep b1 (by simp)); have x3 : w1.cell? ⟨w.heap.size, 3, none⟩ = some (.int .i64 n) := (keep b1 (by simp)))
    clear b1
    go_wp2_with fail
    (have y0 := fun w' (h : Below w1.heap.size w1 w') => keep h x0; have y1 := fun w' (h : Below w1.heap.size w1 w') => keep h x1; have y2 := fun w' (h : Below w1.heap.size w1 w') => keep h x2; have y3 := fun w' (h : Below w1.heap.size w1 w') => keep h x3)
    clear x0 x1 x2 x3
    go_region_held (fun w' => Below w1.heap.size w1 w') (first | assumption | exact (Below.refl _ _).drew | exact Below.trans (w := w1) (by assumption) hb2 | exact (below_step (wo := w1) (W := w1.drew) (Below.refl _ _).drew hb1).trans hb2 | exact below_step (by assumption) hb1) (first | (go_at_call 108; refine (handleBytes_any l c k a b d h _).mono ?_; rintro e w2 ⟨A1, c1, rfl, ho, hb1⟩) | (go_at_call 136; refine (put_any w1.heap.size A1 6 c1 (hby a b d) (hid (hby_length _ _ _)) n.toNat n HN n0 n1 7 7 (hid rfl) _ (by omega) (by omega) (ho.mono (by first | exact Nat.le_refl _ | exact Below.size (by assumption))) (by exact Below.size (w := w1) (by assumption))).mono ?_; rintro e w3 ⟨A2, c2, rfl, ho2, hb2⟩))
    have hB : Below w1.heap.size w1 w3 := by assumption
    go_wp2
    go_ret2
    exact ⟨A2, c2, rfl, ho2.rd, below_in hb hB⟩
end Go.Proofs.YtndmblhkmgnpcaaGreat

namespace Go.Proofs.YtndmblhkmgnpcaaGreat
open Go.RowKit
set_option linter.unusedVariables false
set_option linter.unusedSimpArgs false

theorem Rd.drop {w : World} {b o : Nat} {c : Nat} {l : List UInt8} (h : Rd w (some ⟨b, o, none⟩) c l) (k : Nat) (hk : k < l.length) : Rd w (some ⟨b, o + k, none⟩) (c - k) (l.drop k) := by
  refine ⟨by have := h.1; rw [List.length_drop]; omega, by have := h.2.1; unfold maxLen at *; omega, fun _ => ⟨b, o + k, rfl, fun j hj => ?_⟩⟩
  obtain ⟨b1, o1, hA, hc⟩ := h.2.2 (by omega)
  injection hA with hA
  injection hA with h1 h2 h3
  subst h1 h2
  rw [List.length_drop] at hj
  rw [show o + k + j = o + (k + j) by omega, hc (k + j) (by omega)]
  simp
theorem Rd.empty {w : World} {A : Option Addr} {c : Nat} (hc : c ≤ maxLen) : Rd w A c [] := ⟨by simp, hc, fun h => absurd h (by simp)⟩

theorem or_add (z : Int) (d : UInt8) (z0 : 0 ≤ z) (z1 : z * 256 < 9223372036854775808) : bits .or .i64 (z * 256) (d.toNat : Int) = z * 256 + d.toNat := by
  obtain ⟨a, rfl⟩ : ∃ a : Nat, z = a := ⟨z.toNat, by omega⟩
  have hd := d.toNat_lt
  have e2 : a * 256 ||| d.toNat = a * 256 + d.toNat := by
    have := Nat.shiftLeft_add_eq_or_of_lt (show d.toNat < 2 ^ 8 by omega) a
    rw [Nat.shiftLeft_eq] at this
    exact this.symm
  have ofs : ∀ x : Nat, x < 9223372036854775808 → (BitVec.ofInt 64 (x : Int)).toNat = x := by
    intro x hx
    rw [BitVec.ofInt_natCast, BitVec.toNat_ofNat]
    exact Nat.mod_eq_of_lt (by omega)
  rw [show (a : Int) * 256 = ((a * 256 : Nat) : Int) by omega]
  show IntKind.i64.wrap ((BitVec.ofInt 64 ((a * 256 : Nat) : Int) ||| BitVec.ofInt 64 (d.toNat : Int)).toNat : Int) = _
  rw [BitVec.toNat_or, ofs _ (by omega), ofs _ (by omega), e2, IntKind.wrap_i64]
  omega
theorem vl_take {l : List UInt8} {j : Nat} (h : j < l.length) : vl (l.take (j + 1)) = vl (l.take j) * 256 + l[j].toNat := by
  rw [List.take_succ_eq_append_getElem h, vl_snoc]
theorem vl_small (l : List UInt8) {j m : Nat} (hj : j ≤ m) : vl (l.take j) < 256 ^ m := by
  have h := vl_lt (l.take j)
  have h2 : 256 ^ (l.take j).length ≤ 256 ^ m := Nat.pow_le_pow_right (by decide) (by rw [List.length_take]; omega)
  omega

set_option maxRecDepth 100000 in
set_option maxHeartbeats 800000 in
theorem value_of (z : Int) (A : Option Addr) (n c : Nat) (l : List UInt8) (hn : Hid (l.length = n)) (hz : Hid ((vl l : Int) = z)) (h7 : n ≤ 7) (w : World) (hr : Rd w A c l) :
    Calls Tryz.prog 128 #[.slice A n c] w fun e w' => e = .returned (.int .i64 z) ∧ w = w' := by
  have hc2 : (c : Int) ≤ 9223372036854775807 := by have := hr.cap; omega
  have hc1 : (n : Int) ≤ c := by have := hr.len; have := hn.out; omega
  have HR := hid hr
  clear hr
  go_enter Tryz.func128, Tryz.ntmps128
  go_wp2
  go_loop [3, 8] (fun v i => ∃ (j : Nat) (y : Int), j ≤ n ∧ i = .int .i64 (j : Int) ∧ v = .int .i64 y ∧ Hid ((vl (l.take j) : Int) = y)) (fun _ i => n - (intOf i).toNat)
  case atStart => exact ⟨0, 0, by omega, rfl, rfl, hid rfl⟩
  case round =>
    obtain ⟨j, y, hj, rfl, rfl, hy⟩ := hrel
    by_cases hlt : j < n
    · have hl := hn.out
      obtain ⟨b, o, rfl, hcell⟩ := HR.out.at_ (by omega)
      have h1 := hcell j (by omega)
      have hs := vl_take (l := l) (j := j) (by omega)
      have hsm := vl_small l (show j ≤ 6 by omega)
      generalize l[j]'(by omega) = d at h1 hs
      have hd := d.toNat_lt
      have hd2 : (d.toNat : Int) ≤ 255 := by omega
      have y0 : 0 ≤ y := by rw [← hy.out]; omega
      have y1 : y < 281474976710656 := by have := hy.out; simp at hsm; omega
      have ho := or_add y d y0 (by omega)
      have HS := hid (show ((vl (l.take (j + 1)) : Nat) : Int) = y * 256 + d.toNat by rw [hs]; have := hy.out; omega)
      have hlt2 : (j : Int) < (n : Int) := by omega
      clear hs hsm hd hcell hl
      go_wp2
      go_round
      case rel => exact ⟨j + 1, _, by omega, by go_num, rfl, HS⟩
      case measure => simp [intOf]; omega
    · have ej : l.take j = l := List.take_of_length_le (by have := hn.out; omega)
      have hlt2 : ¬ (j : Int) < (n : Int) := by omega
      have HE := hid ej
      clear ej
      go_wp2
      go_ret
      exact ⟨ret_int (by rw [← hz.out, ← hy.out, HE.out]), rfl⟩

/-- What bytes tell: a label's level and categories, a number, a counter. -/
def gL (l : List UInt8) : Int := ((l.getD 0 0).toNat : Int)
def gC (l : List UInt8) : Int := (vl ((l.drop 1).take 4) : Int)
def gK (l : List UInt8) : Int := ((l.getD 5 0).toNat : Int)
def gN (l : List UInt8) : Int := (vl (l.drop 6) : Int)
theorem gC_range (l : List UInt8) : 0 ≤ gC l ∧ gC l < 4294967296 := by
  have h := vl_lt ((l.drop 1).take 4)
  have h2 : 256 ^ ((l.drop 1).take 4).length ≤ 256 ^ 4 := Nat.pow_le_pow_right (by decide) (by rw [List.length_take]; omega)
  simp only [Nat.reducePow] at h2
  unfold gC
  omega
theorem gL_range (l : List UInt8) : 0 ≤ gL l ∧ gL l ≤ 255 := by
  have := (l.getD 0 0).toNat_lt
  unfold gL
  omega
theorem gK_range (l : List UInt8) : 0 ≤ gK l ∧ gK l ≤ 255 := by
  have := (l.getD 5 0).toNat_lt
  unfold gK
  omega
theorem gN_range (l : List UInt8) (h : l.length ≤ 13) : 0 ≤ gN l ∧ gN l < 72057594037927936 := by
  have h1 := vl_lt (l.drop 6)
  have h2 : 256 ^ (l.drop 6).length ≤ 256 ^ 7 := Nat.pow_le_pow_right (by decide) (by rw [List.length_drop]; omega)
  simp only [Nat.reducePow] at h2
  unfold gN
  omega
theorem g_six {l : List UInt8} (h : l.length = 6) : gN l = 0 := by
  unfold gN
  rw [List.drop_eq_nil_of_le (by omega)]
  rfl

set_option maxRecDepth 100000 in
set_option maxHeartbeats 1600000 in
theorem get_of (x0 x1 x5 x6 : Int) (A : Option Addr) (n c : Nat) (l : List UInt8) (hn : Hid (l.length = n)) (hx : Hid (gL l = x0 ∧ gC l = x1 ∧ gK l = x5 ∧ gN l = x6)) (h6 : n = 6 ∨ n = 13) (w : World) (hr : Rd w A c l) :
    Calls Tryz.prog 105 #[.slice A n c] w fun e w' => e = .returned (.agg #[.int .u8 x0, .int .u32 x1, .int .u8 x5, .int .i64 x6]) ∧ Below w.heap.size w w' := by
  have hc2 : (c : Int) ≤ 9223372036854775807 := by have := hr.cap; omega
  have hc1 : (n : Int) ≤ c := by have := hr.len; have := hn.out; omega
  have hl := hn.out
  obtain ⟨b, o, rfl, hcell⟩ := hr.at_ (by omega)
  have e0 : w.cell? ⟨b, o, none⟩ = some (.int .u8 x0) := by
    have := hcell 0 (by omega)
    rw [Nat.add_zero] at this
    rw [this, ← hx.out.1, gL, List.getD_eq_getElem?_getD, List.getElem?_eq_getElem (by omega)]
    rfl
  have e5 : w.cell? ⟨b, o + 5, none⟩ = some (.int .u8 x5) := by
    rw [hcell 5 (by omega), ← hx.out.2.2.1, gK, List.getD_eq_getElem?_getD, List.getElem?_eq_getElem (by omega)]
    rfl
  have HT := hid (show ((l.drop 1).take 4).length = 4 by rw [List.length_take, List.length_drop]; omega)
  have HR4 := hid ((hr.drop 1 (by omega)).take 4)
  have x10 : 0 ≤ x1 := by have := gC_range l; have := hx.out; omega
  have x11 : x1 < 4294967296 := by have := gC_range l; have := hx.out; omega
  have HX1 : Hid ((vl ((l.drop 1).take 4) : Int) = x1) := hid hx.out.2.1
  have HX6 : Hid ((vl (l.drop 6) : Int) = x6) := hid hx.out.2.2.2
  have HL6 := hid (show (l.drop 6).length = n - 6 by rw [List.length_drop]; omega)
  have HR6 : Hid (Rd w (some ⟨b, o + 6, none⟩) (c - 6) (l.drop 6)) := hid (by
    rcases h6 with rfl | rfl
    · rw [List.drop_eq_nil_of_le (by omega)]
      exact Rd.empty (by have := hr.2.1; unfold maxLen at *; omega)
    · exact hr.drop 6 (by omega))
  replace e0 : ∀ o1 o2, ((w.alloc o1).alloc o2).cell? ⟨b, o, none⟩ = some (.int .u8 x0) := fun o1 o2 => keepa (keepa e0 _) _
  replace e5 : ∀ o1 o2, ((w.alloc o1).alloc o2).cell? ⟨b, o + 5, none⟩ = some (.int .u8 x5) := fun o1 o2 => keepa (keepa e5 _) _
  clear hcell hl hr hx
  rcases h6 with rfl | rfl
  · have e6 : l.drop 6 = [] := List.drop_eq_nil_of_le (by rw [hn.out]; omega)
    rw [e6] at HX6
    have hc3 : c ≤ maxLen := by unfold maxLen; omega
    clear HL6 HR6 e6
    by_cases h6 : c = 6
    · subst h6
      go_enter Tryz.func105, Tryz.ntmps105
      go_wp2_with fail
      refine (value_of x1 _ 4 _ _ HT HX1 (by omega) _ ((HR4.out.alloc _).alloc _)).mono ?_
      rintro e w1 ⟨rfl, rfl⟩
      go_wp2_with fail
      refine (value_of x6 _ 0 _ [] (hid rfl) HX6 (by omega) _ (Rd.empty (by omega))).mono ?_
      rintro e w1 ⟨rfl, rfl⟩
      go_wp2
      go_returns
      exact ⟨rfl, by go_grown⟩
    · go_enter Tryz.func105, Tryz.ntmps105
      go_wp2_with fail
      refine (value_of x1 _ 4 _ _ HT HX1 (by omega) _ ((HR4.out.alloc _).alloc _)).mono ?_
      rintro e w1 ⟨rfl, rfl⟩
      go_wp2_with fail
      refine (value_of x6 _ 0 _ [] (hid rfl) HX6 (by omega) _ (Rd.empty (by omega))).mono ?_
      rintro e w1 ⟨rfl, rfl⟩
      go_wp2
      go_returns
      exact ⟨rfl, by go_grown⟩
  · go_enter Tryz.func105, Tryz.ntmps105
    go_wp2_with fail
    refine (value_of x1 _ 4 _ _ HT HX1 (by omega) _ ((HR4.out.alloc _).alloc _)).mono ?_
    rintro e w1 ⟨rfl, rfl⟩
    go_wp2_with fail
    refine (value_of x6 _ 7 _ _ HL6 HX6 (by omega) _ ((HR6.out.alloc _).alloc _)).mono ?_
    rintro e w1 ⟨rfl, rfl⟩
    go_wp2
    go_returns
    exact ⟨rfl, by go_grown⟩

def okH (l : List UInt8) : Bool := decide (l.length = 6) && mayH (gL l) (gK l)
def okI (l : List UInt8) : Bool := decide (l.length = 13) && mayI (gL l) (gK l) (gN l)

set_option maxHeartbeats 1600000 in
theorem getHandle_of (q : Bool) (x0 x1 x5 : Int) (A : Option Addr) (n c : Nat) (l : List UInt8) (hn : Hid (l.length = n)) (hx : Hid (okH l = q ∧ pick q (gL l) = x0 ∧ pick q (gC l) = x1 ∧ pick q (gK l) = x5)) (w : World) (hr : Rd w A c l) :
    Calls Tryz.prog 77 #[.slice A n c] w fun e w' => e = .returned (.tuple #[.agg #[.int .u8 x0, .int .u32 x1, .int .u8 x5], .int .i64 (er q)]) ∧ Below w.heap.size w w' := by
  by_cases h6 : n = 6
  · obtain ⟨y0, y1, y5, y6, hy⟩ : ∃ y0 y1 y5 y6, gL l = y0 ∧ gC l = y1 ∧ gK l = y5 ∧ gN l = y6 := ⟨_, _, _, _, rfl, rfl, rfl, rfl⟩
    have HY := hid hy
    have hq : mayH y0 y5 = q := by
      have := hx.out.1
      rw [okH, hn.out, h6, hy.1, hy.2.2.1] at this
      simpa using this
    have HX : Hid (pick q y0 = x0 ∧ pick q y1 = x1 ∧ pick q y5 = x5) := hid (by
      have := hx.out.2
      rwa [hy.1, hy.2.1, hy.2.2.1] at this)
    subst h6
    clear hy hx
    cases q
    · obtain ⟨rfl, rfl, rfl⟩ := HX.out
      have HQ := hid hq
      clear hq HX
      go_enter Tryz.func77, Tryz.ntmps77
      go_wp2_with fail
      refine (get_of y0 y1 y5 y6 A 6 c l hn HY (.inl rfl) _ (hr.alloc _)).mono ?_
      rintro e w1 ⟨rfl, b1⟩
      have hb : Below w.heap.size w w1 := below_in (by go_grown) b1
      (have t0 : w1.cell? ⟨w.heap.size, 0, none⟩ = some (.int .u8 0) := (keep b1 (by simp)); have t1 : w1.cell? ⟨w.heap.size, 1, none⟩ = some (.int .u32 0) := (keep b1 (by simp)); have t2 : w1.cell? ⟨w.heap.size, 2, none⟩ = some (.int .u8 0) := (keep b1 (by simp)))
      (have f0 : w1.frozen? ⟨w.heap.size, 0, none⟩ = false := (keepz b1 (v := .int .u8 0) (by simp) (by simp [go_sem])); have f1 : w1.frozen? ⟨w.heap.size, 1, none⟩ = false := (keepz b1 (v := .int .u32 0) (by simp) (by simp [go_sem])); have f2 : w1.frozen? ⟨w.heap.size, 2, none⟩ = false := (keepz b1 (v := .int .u8 0) (by simp) (by simp [go_sem])))
      clear b1
      go_wp2_with fail
      refine (checkHandle_any y0 y1 y5 _).mono ?_
      rw [HQ.out]
      rintro e w2 ⟨rfl, b2⟩
      replace b2 := past_alloc b2
      replace hb := below_in hb b2
      (replace f0 := keepz b2 t0 f0; replace f1 := keepz b2 t1 f1; replace f2 := keepz b2 t2 f2)
      (replace t0 := keep b2 t0; replace t1 := keep b2 t1; replace t2 := keep b2 t2)
      clear b2
      go_wp2
      exact bodyPost_ret (v := .tuple #[.agg #[.int .u8 0, .int .u32 0, .int .u8 0], .int .i64 (er false)]) (by simp [results, Tryz.results77, go_sem, t0, t1, t2]) rfl ⟨rfl, set3 hb (Nat.le_refl _) _ _ _⟩
    · obtain ⟨rfl, rfl, rfl⟩ := HX.out
      have HQ := hid hq
      clear hq HX
      go_enter Tryz.func77, Tryz.ntmps77
      go_wp2_with fail
      refine (get_of y0 y1 y5 y6 A 6 c l hn HY (.inl rfl) _ (hr.alloc _)).mono ?_
      rintro e w1 ⟨rfl, b1⟩
      have hb : Below w.heap.size w w1 := below_in (by go_grown) b1
      (have t0 : w1.cell? ⟨w.heap.size, 0, none⟩ = some (.int .u8 0) := (keep b1 (by simp)); have t1 : w1.cell? ⟨w.heap.size, 1, none⟩ = some (.int .u32 0) := (keep b1 (by simp)); have t2 : w1.cell? ⟨w.heap.size, 2, none⟩ = some (.int .u8 0) := (keep b1 (by simp)))
      (have f0 : w1.frozen? ⟨w.heap.size, 0, none⟩ = false := (keepz b1 (v := .int .u8 0) (by simp) (by simp [go_sem])); have f1 : w1.frozen? ⟨w.heap.size, 1, none⟩ = false := (keepz b1 (v := .int .u32 0) (by simp) (by simp [go_sem])); have f2 : w1.frozen? ⟨w.heap.size, 2, none⟩ = false := (keepz b1 (v := .int .u8 0) (by simp) (by simp [go_sem])))
      clear b1
      go_wp2_with fail
      refine (checkHandle_any y0 y1 y5 _).mono ?_
      rw [HQ.out]
      rintro e w2 ⟨rfl, b2⟩
      (have s0 : w2.cell? ⟨w1.heap.size, 0, none⟩ = some (.int .u8 y0) := (keep b2 (by simp)); have s1 : w2.cell? ⟨w1.heap.size, 1, none⟩ = some (.int .u32 y1) := (keep b2 (by simp)); have s2 : w2.cell? ⟨w1.heap.size, 2, none⟩ = some (.int .u8 y5) := (keep b2 (by simp)); have s3 : w2.cell? ⟨w1.heap.size, 3, none⟩ = some (.int .i64 y6) := (keep b2 (by simp)))
      replace b2 := past_alloc b2
      replace hb := below_in hb b2
      (replace f0 := keepz b2 t0 f0; replace f1 := keepz b2 t1 f1; replace f2 := keepz b2 t2 f2)
      (replace t0 := keep b2 t0; replace t1 := keep b2 t1; replace t2 := keep b2 t2)
      clear b2
      go_wp2
      exact bodyPost_ret (v := .tuple #[.agg #[.int .u8 y0, .int .u32 y1, .int .u8 y5], .int .i64 (er true)]) (by simp [results, Tryz.results77, go_sem, er, t0, t1, t2]) rfl ⟨rfl, set3 hb (Nat.le_refl _) _ _ _⟩
  · have hq : q = false := by
      have := hx.out.1
      rw [okH, hn.out] at this
      simpa [h6] using this.symm
    subst hq
    obtain ⟨_, rfl, rfl, rfl⟩ := hx.out
    have h6' : ((n : Int) != 6) = true := by simp; omega
    clear h6 hx
    go_enter Tryz.func77, Tryz.ntmps77
    go_wp2
    go_returns
    exact ⟨rfl, by go_grown⟩

set_option maxHeartbeats 1600000 in
theorem get_id (q : Bool) (x0 x1 x5 x6 : Int) (A : Option Addr) (n c : Nat) (l : List UInt8) (hn : Hid (l.length = n)) (hx : Hid (okI l = q ∧ pick q (gL l) = x0 ∧ pick q (gC l) = x1 ∧ pick q (gK l) = x5 ∧ pick q (gN l) = x6)) (w : World) (hr : Rd w A c l) :
    Calls Tryz.prog 152 #[.slice A n c] w fun e w' => e = .returned (.tuple #[.agg #[.int .u8 x0, .int .u32 x1, .int .u8 x5, .int .i64 x6], .int .i64 (er q)]) ∧ Below w.heap.size w w' := by
  by_cases h6 : n = 13
  · obtain ⟨y0, y1, y5, y6, hy⟩ : ∃ y0 y1 y5 y6, gL l = y0 ∧ gC l = y1 ∧ gK l = y5 ∧ gN l = y6 := ⟨_, _, _, _, rfl, rfl, rfl, rfl⟩
    have HY := hid hy
    have hq : mayI y0 y5 y6 = q := by
      have := hx.out.1
      rw [okI, hn.out, h6, hy.1, hy.2.2.1, hy.2.2.2] at this
      simpa using this
    have HX : Hid (pick q y0 = x0 ∧ pick q y1 = x1 ∧ pick q y5 = x5 ∧ pick q y6 = x6) := hid (by
      have := hx.out.2
      rwa [hy.1, hy.2.1, hy.2.2.1, hy.2.2.2] at this)
    subst h6
    clear hy hx
    cases q
    · obtain ⟨rfl, rfl, rfl, rfl⟩ := HX.out
      have HQ := hid hq
      clear hq HX
      go_enter Tryz.func152, Tryz.ntmps152
      go_wp2_with fail
      refine (get_of y0 y1 y5 y6 A 13 c l hn HY (.inr rfl) _ (hr.alloc _)).mono ?_
      rintro e w1 ⟨rfl, b1⟩
      have hb : Below w.heap.size w w1 := below_in (by go_grown) b1
      (have t0 : w1.cell? ⟨w.heap.size, 0, none⟩ = some (.int .u8 0) := (keep b1 (by simp)); have t1 : w1.cell? ⟨w.heap.size, 1, none⟩ = some (.int .u32 0) := (keep b1 (by simp)); have t2 : w1.cell? ⟨w.heap.size, 2, none⟩ = some (.int .u8 0) := (keep b1 (by simp)); have t3 : w1.cell? ⟨w.heap.size, 3, none⟩ = some (.int .i64 0) := (keep b1 (by simp)))
      (have f0 : w1.frozen? ⟨w.heap.size, 0, none⟩ = false := (keepz b1 (v := .int .u8 0) (by simp) (by simp [go_sem])); have f1 : w1.frozen? ⟨w.heap.size, 1, none⟩ = false := (keepz b1 (v := .int .u32 0) (by simp) (by simp [go_sem])); have f2 : w1.frozen? ⟨w.heap.size, 2, none⟩ = false := (keepz b1 (v := .int .u8 0) (by simp) (by simp [go_sem])); have f3 : w1.frozen? ⟨w.heap.size, 3, none⟩ = false := (keepz b1 (v := .int .i64 0) (by simp) (by simp [go_sem])))
      clear b1
      go_wp2_with fail
      refine (check_id y0 y1 y5 y6 _).mono ?_
      rw [HQ.out]
      rintro e w2 ⟨rfl, b2⟩
      replace b2 := past_alloc2 b2
      replace hb := below_in hb b2
      (replace f0 := keepz b2 t0 f0; replace f1 := keepz b2 t1 f1; replace f2 := keepz b2 t2 f2; replace f3 := keepz b2 t3 f3)
      (replace t0 := keep b2 t0; replace t1 := keep b2 t1; replace t2 := keep b2 t2; replace t3 := keep b2 t3)
      clear b2
      go_wp2
      exact bodyPost_ret (v := .tuple #[.agg #[.int .u8 0, .int .u32 0, .int .u8 0, .int .i64 0], .int .i64 (er false)]) (by simp [results, Tryz.results152, go_sem, t0, t1, t2, t3]) rfl ⟨rfl, set4 hb (Nat.le_refl _) _ _ _ _⟩
    · obtain ⟨rfl, rfl, rfl, rfl⟩ := HX.out
      have HQ := hid hq
      clear hq HX
      go_enter Tryz.func152, Tryz.ntmps152
      go_wp2_with fail
      refine (get_of y0 y1 y5 y6 A 13 c l hn HY (.inr rfl) _ (hr.alloc _)).mono ?_
      rintro e w1 ⟨rfl, b1⟩
      have hb : Below w.heap.size w w1 := below_in (by go_grown) b1
      (have t0 : w1.cell? ⟨w.heap.size, 0, none⟩ = some (.int .u8 0) := (keep b1 (by simp)); have t1 : w1.cell? ⟨w.heap.size, 1, none⟩ = some (.int .u32 0) := (keep b1 (by simp)); have t2 : w1.cell? ⟨w.heap.size, 2, none⟩ = some (.int .u8 0) := (keep b1 (by simp)); have t3 : w1.cell? ⟨w.heap.size, 3, none⟩ = some (.int .i64 0) := (keep b1 (by simp)))
      (have f0 : w1.frozen? ⟨w.heap.size, 0, none⟩ = false := (keepz b1 (v := .int .u8 0) (by simp) (by simp [go_sem])); have f1 : w1.frozen? ⟨w.heap.size, 1, none⟩ = false := (keepz b1 (v := .int .u32 0) (by simp) (by simp [go_sem])); have f2 : w1.frozen? ⟨w.heap.size, 2, none⟩ = false := (keepz b1 (v := .int .u8 0) (by simp) (by simp [go_sem])); have f3 : w1.frozen? ⟨w.heap.size, 3, none⟩ = false := (keepz b1 (v := .int .i64 0) (by simp) (by simp [go_sem])))
      clear b1
      go_wp2_with fail
      refine (check_id y0 y1 y5 y6 _).mono ?_
      rw [HQ.out]
      rintro e w2 ⟨rfl, b2⟩
      (have s0 : w2.cell? ⟨w1.heap.size + 1, 0, none⟩ = some (.int .u8 y0) := (keep b2 (by simp)); have s1 : w2.cell? ⟨w1.heap.size + 1, 1, none⟩ = some (.int .u32 y1) := (keep b2 (by simp)); have s2 : w2.cell? ⟨w1.heap.size + 1, 2, none⟩ = some (.int .u8 y5) := (keep b2 (by simp)); have s3 : w2.cell? ⟨w1.heap.size + 1, 3, none⟩ = some (.int .i64 y6) := (keep b2 (by simp)))
      replace b2 := past_alloc2 b2
      replace hb := below_in hb b2
      (replace f0 := keepz b2 t0 f0; replace f1 := keepz b2 t1 f1; replace f2 := keepz b2 t2 f2; replace f3 := keepz b2 t3 f3)
      (replace t0 := keep b2 t0; replace t1 := keep b2 t1; replace t2 := keep b2 t2; replace t3 := keep b2 t3)
      clear b2
      go_wp2
      exact bodyPost_ret (v := .tuple #[.agg #[.int .u8 y0, .int .u32 y1, .int .u8 y5, .int .i64 y6], .int .i64 (er true)]) (by simp [results, Tryz.results152, go_sem, er, t0, t1, t2, t3]) rfl ⟨rfl, set4 hb (Nat.le_refl _) _ _ _ _⟩
  · have hq : q = false := by
      have := hx.out.1
      rw [okI, hn.out] at this
      simpa [h6] using this.symm
    subst hq
    obtain ⟨_, rfl, rfl, rfl, rfl⟩ := hx.out
    have h6' : ((n : Int) != 13) = true := by simp; omega
    clear h6 hx
    go_enter Tryz.func152, Tryz.ntmps152
    go_wp2
    go_returns
    exact ⟨rfl, by go_grown⟩
end Go.Proofs.YtndmblhkmgnpcaaGreat

namespace Go.Proofs.YtndmblhkmgnpcaaGreat
set_option linter.unusedVariables false
set_option linter.unusedSimpArgs false

theorem four_of {l : List UInt8} (h : l.length = 4) : ∃ a b c d, l = [a, b, c, d] := by
  match l, h with
  | [a, b, c, d], _ => exact ⟨a, b, c, d, rfl⟩

theorem iby_take (a b d n : Nat) : (iby a b d n).take 6 = hby a b d := by
  rw [iby, List.take_append_of_le_length (by rw [hby_length]; omega), List.take_of_length_le (by rw [hby_length]; omega)]
theorem iby_drop (a b d n : Nat) : (iby a b d n).drop 6 = dg 7 n := by
  rw [iby, List.drop_append_of_le_length (by rw [hby_length]; omega), List.drop_of_length_le (by rw [hby_length]; omega), List.nil_append]
theorem iby_parts (a b d n : Nat) (ha : a < 256) (hb : b < 4294967296) (hd : d < 256) (hn : n < 72057594037927936) :
    gL (iby a b d n) = a ∧ gC (iby a b d n) = b ∧ gK (iby a b d n) = d ∧ gN (iby a b d n) = n := by
  obtain ⟨x, y, z, u, h4⟩ := four_of (dg_length 4 b)
  have hv : vl [x, y, z, u] = b := by rw [← h4]; exact vl_dg 4 b (by simpa using hb)
  have e : iby a b d n = UInt8.ofNat a :: x :: y :: z :: u :: UInt8.ofNat d :: dg 7 n := by simp [iby, hby, h4]
  refine ⟨?_, ?_, ?_, ?_⟩
  · rw [e, gL]
    show (((UInt8.ofNat a).toNat : Nat) : Int) = a
    rw [ofNat_toNat ha]
  · rw [e, gC]
    show ((vl [x, y, z, u] : Nat) : Int) = b
    rw [hv]
  · rw [e, gK]
    show (((UInt8.ofNat d).toNat : Nat) : Int) = d
    rw [ofNat_toNat hd]
  · rw [gN, iby_drop, vl_dg 7 n (by simpa using hn)]

theorem back_parts {l : List UInt8} (h : l.length = 13) : iby (gL l).toNat (gC l).toNat (gK l).toNat (gN l).toNat = l := by
  match l, h with
  | b0 :: b1 :: b2 :: b3 :: b4 :: b5 :: r, h =>
    have hr : r.length = 7 := by simpa using h
    have e0 : (gL (b0 :: b1 :: b2 :: b3 :: b4 :: b5 :: r)).toNat = b0.toNat := rfl
    have e1 : (gC (b0 :: b1 :: b2 :: b3 :: b4 :: b5 :: r)).toNat = vl [b1, b2, b3, b4] := rfl
    have e5 : (gK (b0 :: b1 :: b2 :: b3 :: b4 :: b5 :: r)).toNat = b5.toNat := rfl
    have e6 : (gN (b0 :: b1 :: b2 :: b3 :: b4 :: b5 :: r)).toNat = vl r := rfl
    have h4 := dg_vl [b1, b2, b3, b4]
    have h7 := dg_vl r
    rw [hr] at h7
    rw [e0, e1, e5, e6, iby, hby, h7]
    show [UInt8.ofNat b0.toNat] ++ dg 4 (vl [b1, b2, b3, b4]) ++ [UInt8.ofNat b5.toNat] ++ r = _
    rw [show dg 4 (vl [b1, b2, b3, b4]) = [b1, b2, b3, b4] from h4, UInt8.ofNat_toNat, UInt8.ofNat_toNat]
    rfl
end Go.Proofs.YtndmblhkmgnpcaaGreat
