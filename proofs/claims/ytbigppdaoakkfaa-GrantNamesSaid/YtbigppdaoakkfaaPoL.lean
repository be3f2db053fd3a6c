/-
  What stage 6 takes from the layers below: small words on worlds; labels checked, compared, held against each other; the reference's likewise.
-/
import Derived.Test.YtbigppdaoakkfaaRows
import Derived.Test.YtbigppdaoakkfaaBase
import Derived.LoopTactic
import Derived.WalkMore
import Derived.Outline
namespace Go.Proofs.Ytbigppdaoakkfaa
open Go.RowKit
set_option linter.unusedVariables false
set_option linter.unusedSimpArgs false

theorem below_in {w W w1 : World} (h : Below w.heap.size w W) (b : Below W.heap.size W w1) : Below w.heap.size w w1 := h.trans (b.mono h.size)

theorem past_alloc {w w2 : World} {o : Obj} (b : Below (w.alloc o).heap.size (w.alloc o) w2) : Below w.heap.size w w2 := ((Below.refl _ w).alloc (Nat.le_refl _) o).trans (b.mono (by simp))
theorem past_alloc2 {w w2 : World} {o p : Obj} (b : Below ((w.alloc o).alloc p).heap.size ((w.alloc o).alloc p) w2) : Below w.heap.size w w2 := past_alloc (past_alloc b)
theorem past_alloc3 {w w2 : World} {o p q : Obj} (b : Below (((w.alloc o).alloc p).alloc q).heap.size (((w.alloc o).alloc p).alloc q) w2) : Below w.heap.size w w2 := past_alloc (past_alloc2 b)
theorem set3 {w w' : World} {b g : Nat} (h : Below b w w') (hg : b ≤ g) (x y z : Value) : Below b w (((w'.setCell ⟨g, 0, none⟩ x).setCell ⟨g, 1, none⟩ y).setCell ⟨g, 2, none⟩ z) := ((h.setCell hg _).setCell hg _).setCell hg _
theorem set4 {w w' : World} {b g : Nat} (h : Below b w w') (hg : b ≤ g) (x y z u : Value) : Below b w ((((w'.setCell ⟨g, 0, none⟩ x).setCell ⟨g, 1, none⟩ y).setCell ⟨g, 2, none⟩ z).setCell ⟨g, 3, none⟩ u) := (set3 h hg x y z).setCell hg _
theorem set5 {w w' : World} {b g : Nat} (h : Below b w w') (hg : b ≤ g) (x y z u t : Value) : Below b w (((((w'.setCell ⟨g, 0, none⟩ x).setCell ⟨g, 1, none⟩ y).setCell ⟨g, 2, none⟩ z).setCell ⟨g, 3, none⟩ u).setCell ⟨g, 4, none⟩ t) := (set4 h hg x y z u).setCell hg _

def er (b : Bool) : Int := if b then 0 else 8
def mayL (l : Int) : Bool := decide (l ≤ 15)
theorem below_step {wo W w2 : World} (h : Below wo.heap.size wo W) (h2 : Below W.heap.size W w2) : Below wo.heap.size wo w2 := h.trans (h2.mono h.size)
theorem ret_bool {a b : Bool} (h : a = b) : Ending.returned (.bool a) = .returned (.bool b) := by rw [h]
theorem ret_int {k : IntKind} {a b : Int} (h : a = b) : Ending.returned (.int k a) = .returned (.int k b) := by rw [h]

set_option maxHeartbeats 400000 in
theorem check_any (l c : Int) (w : World) :
    Calls Try.prog 47 #[.agg #[.int .u8 l, .int .u32 c]] w fun e w' =>
      e = .returned (.int .i64 (er (mayL l))) ∧ Below w.heap.size w w' := by
  go_enter Try.func47, Try.ntmps47
  go_wp2
  all_goals (go_returns; exact ⟨by simp [er, mayL, *] <;> omega, by go_grown⟩)

def sameL (l c l' c' : Int) : Bool := l == l' && c == c'
theorem stoodL : Try.prog.stoodInHeld 32 = false := by kernel_rfl
theorem eql_label (w : World) (a b c d : Int) : (binOp .eql 32 (.agg #[.int .u8 a, .int .u32 b]) (.agg #[.int .u8 c, .int .u32 d])).run Try.prog w = .ok (.bool (sameL a b c d)) w := by
  have e1 := stoodL
  unfold sameL
  by_cases h1 : a = c <;> by_cases h2 : b = d <;> simp [go_sem, e1, h1, h2]
theorem neq_label (w : World) (a b c d : Int) : (binOp .neq 32 (.agg #[.int .u8 a, .int .u32 b]) (.agg #[.int .u8 c, .int .u32 d])).run Try.prog w = .ok (.bool (!sameL a b c d)) w := by
  have e1 := stoodL
  unfold sameL
  by_cases h1 : a = c <;> by_cases h2 : b = d <;> simp [go_sem, e1, h1, h2]
def mn (x y : Int) : Int := if y < x then y else x
def an (x y : Int) : Int := bits .and .u32 x y

set_option maxHeartbeats 400000 in
theorem lower_any (l c l' c' : Int) (w : World) :
    Calls Try.prog 60 #[.agg #[.int .u8 l, .int .u32 c], .agg #[.int .u8 l', .int .u32 c']] w fun e w' =>
      e = .returned (.agg #[.int .u8 (mn l l'), .int .u32 (an c c')]) ∧ Below w.heap.size w w' := by
  go_enter Try.func60, Try.ntmps60
  go_wp2
  all_goals (go_returns; exact ⟨by simp [mn, an, *] <;> omega, by go_grown⟩)

def leqB (l c l' c' : Int) : Bool := mn l l' == l && an c c' == c

set_option maxHeartbeats 400000 in
theorem leq_any (l c l' c' : Int) (w : World) :
    Calls Try.prog 48 #[.agg #[.int .u8 l, .int .u32 c], .agg #[.int .u8 l', .int .u32 c']] w fun e w' =>
      e = .returned (.bool (leqB l c l' c')) ∧ Below w.heap.size w w' := by
  go_enter Try.func48, Try.ntmps48
  go_wp2
  generalize hW : (w.alloc _).alloc _ = W
  have hb : Below w.heap.size w W := by subst hW; go_grown
  have h1 := fun x : Past W => x.keeps (a := ⟨w.heap.size, 0, none⟩) (v := .int .u8 l) (by subst hW; simp)
  have h2 := fun x : Past W => x.keeps (a := ⟨w.heap.size, 1, none⟩) (v := .int .u32 c) (by subst hW; simp)
  have h3 := fun x : Past W => x.keeps (a := ⟨w.heap.size + 1, 0, none⟩) (v := .int .u8 l') (by subst hW; simp)
  have h4 := fun x : Past W => x.keeps (a := ⟨w.heap.size + 1, 1, none⟩) (v := .int .u32 c') (by subst hW; simp)
  clear hW
  have hE := eql_label
  refine wp_region_past (by kernel_rfl) (by kernel_rfl) ?_
  repeat (go_big_quiet_step (exact quiet_below (lower_any _ _ _ _ _)))
  refine wpQuiet_nil ?_
  rintro _ ⟨⟨w1, h⟩, rfl⟩
  clear h1 h2 h3 h4 hE
  go_wp2
  go_ret
  exact ⟨rfl, hb.trans (h.mono hb.size)⟩

theorem leq_of (b : Bool) (l c l' c' : Int) (h : leqB l c l' c' = b) (w : World) :
    Calls Try.prog 48 #[.agg #[.int .u8 l, .int .u32 c], .agg #[.int .u8 l', .int .u32 c']] w fun e w' => e = .returned (.bool b) ∧ Below w.heap.size w w' := by subst h; exact leq_any l c l' c' w
def aheadB (l c l' c' : Int) : Bool := decide (l < l' ∨ l = l' ∧ c < c')
set_option maxHeartbeats 400000 in
theorem ahead_any (l c l' c' : Int) (w : World) :
    Calls Try.prog 56 #[.agg #[.int .u8 l, .int .u32 c], .agg #[.int .u8 l', .int .u32 c']] w fun e w' =>
      e = .returned (.bool (aheadB l c l' c')) ∧ Below w.heap.size w w' := by
  go_enter Try.func56, Try.ntmps56
  by_cases h : l = l'
  · have h1 : (l == l') = true := by simp [h]
    have H := hid h; clear h
    go_wp2
    go_ret
    exact ⟨ret_bool (by rw [aheadB, decide_eq_decide]; have := H.out; omega), by go_grown⟩
  · have h1 : (l == l') = false := by simp [h]
    go_wp2
    go_ret
    exact ⟨ret_bool (by rw [aheadB, decide_eq_decide]; omega), by go_grown⟩

/-- The numbers of a label are of their kinds. -/
structure Lab (l c : Int) : Prop where
  l0 : 0 ≤ l
  l1 : l ≤ 255
  c0 : 0 ≤ c
  c1 : c ≤ 4294967295

set_option maxHeartbeats 400000 in
theorem rAhead_any (l c l' c' : Int) (h : Lab l c) (h' : Lab l' c') (w : World) :
    Calls Try.prog 51 #[.agg #[.int .u8 l, .int .u32 c], .agg #[.int .u8 l', .int .u32 c']] w fun e w' => e = .returned (.bool (aheadB l c l' c')) ∧ Below w.heap.size w w' := by
  obtain ⟨g1, g2, g3, g4⟩ := h
  obtain ⟨f1, f2, f3, f4⟩ := h'
  go_enter Try.func51, Try.ntmps51
  go_wp2
  go_ret
  refine ⟨?_, by go_grown⟩
  have e : decide (l * 4294967296 + c < l' * 4294967296 + c') = aheadB l c l' c' := by
    unfold aheadB
    rw [decide_eq_decide]; omega
  rw [← e]
  rfl

theorem an_nat (a b : Nat) (ha : a < 4294967296) (hb : b < 4294967296) : an a b = ((a &&& b : Nat) : Int) := u32_and_nat a b ha hb
theorem nat_of {c : Int} (h0 : 0 ≤ c) (h1 : c ≤ 4294967295) : ∃ n : Nat, c = n ∧ n < 4294967296 := ⟨c.toNat, by omega, by omega⟩

theorem and_lt {a b : Nat} (ha : a < 4294967296) : a &&& b < 4294967296 := Nat.lt_of_le_of_lt Nat.and_le_left ha
/-- At or below, as it is: the level's order, and no category that the other lacks. -/
theorem leqB_nat (l l' : Int) (a b : Nat) (ha : a < 4294967296) (hb : b < 4294967296) : leqB l a l' b = true ↔ l ≤ l' ∧ a &&& b = a := by
  unfold leqB mn
  rw [an_nat a b ha hb, Bool.and_eq_true, beq_iff_eq, beq_iff_eq]
  refine and_congr ?_ ?_
  · split <;> omega
  · omega

theorem and_trans {a b c : Nat} (h1 : a &&& b = a) (h2 : b &&& c = b) : a &&& c = a := by
  rw [← h1, Nat.and_assoc, h2]

theorem leq_trans {l c l' c' l'' c'' : Int} (h : Lab l c) (h' : Lab l' c') (h'' : Lab l'' c'') (h1 : leqB l c l' c' = true) (h2 : leqB l' c' l'' c'' = true) : leqB l c l'' c'' = true := by
  obtain ⟨a, rfl, ha⟩ := nat_of h.c0 h.c1
  obtain ⟨b, rfl, hb⟩ := nat_of h'.c0 h'.c1
  obtain ⟨c, rfl, hc⟩ := nat_of h''.c0 h''.c1
  have h3 := (leqB_nat l l' a b ha hb).1 h1
  have h4 := (leqB_nat l' l'' b c hb hc).1 h2
  exact (leqB_nat l l'' a c ha hc).2 ⟨by omega, and_trans h3.2 h4.2⟩

set_option maxHeartbeats 400000 in
theorem rMay_any (l c : Int) (w : World) :
    Calls Try.prog 61 #[.agg #[.int .u8 l, .int .u32 c]] w fun e w' => e = .returned (.bool (mayL l)) ∧ Below w.heap.size w w' := by
  go_enter Try.func61, Try.ntmps61
  go_wp2
  go_ret
  exact ⟨rfl, by go_grown⟩

end Go.Proofs.Ytbigppdaoakkfaa
