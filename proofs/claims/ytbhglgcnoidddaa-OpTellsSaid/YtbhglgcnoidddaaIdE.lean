/-
  Labels, handles, ids and spans held against each other as structs: one Bool.
-/
import Derived.Test.YtbhglgcnoidddaaIdA
namespace Go.Proofs.Ytbhglgcnoidddaa
open Go.RowKit
set_option linter.unusedVariables false

def sameL (l c l' c' : Int) : Bool := l == l' && c == c'
def sameI (l c k n l' c' k' n' : Int) : Bool := l == l' && c == c' && k == k' && n == n'
def sameH (l c k l' c' k' : Int) : Bool := l == l' && c == c' && k == k'
def sameS (l c k n m l' c' k' n' m' : Int) : Bool := l == l' && c == c' && k == k' && n == n' && m == m'

theorem stoodL : Try.prog.stoodInHeld 24 = false := by kernel_rfl
theorem stoodH : Try.prog.stoodInHeld 26 = false := by kernel_rfl
theorem stoodI : Try.prog.stoodInHeld 28 = false := by kernel_rfl
theorem stoodS : Try.prog.stoodInHeld 32 = false := by kernel_rfl

theorem eql_label (w : World) (a b c d : Int) : (binOp .eql 24 (.agg #[.int .u8 a, .int .u32 b]) (.agg #[.int .u8 c, .int .u32 d])).run Try.prog w = .ok (.bool (sameL a b c d)) w := by
  have e1 := stoodL
  unfold sameL
  by_cases h1 : a = c <;> by_cases h2 : b = d <;> simp [go_sem, e1, h1, h2]
theorem neq_label (w : World) (a b c d : Int) : (binOp .neq 24 (.agg #[.int .u8 a, .int .u32 b]) (.agg #[.int .u8 c, .int .u32 d])).run Try.prog w = .ok (.bool (!sameL a b c d)) w := by
  have e1 := stoodL
  unfold sameL
  by_cases h1 : a = c <;> by_cases h2 : b = d <;> simp [go_sem, e1, h1, h2]
theorem eql_id (w : World) (a b c d a' b' c' d' : Int) : (binOp .eql 28 (.agg #[.int .u8 a, .int .u32 b, .int .u8 c, .int .i64 d]) (.agg #[.int .u8 a', .int .u32 b', .int .u8 c', .int .i64 d'])).run Try.prog w = .ok (.bool (sameI a b c d a' b' c' d')) w := by
  have e1 := stoodI
  unfold sameI
  by_cases h1 : a = a' <;> by_cases h2 : b = b' <;> by_cases h3 : c = c' <;> by_cases h4 : d = d' <;> simp [go_sem, e1, h1, h2, h3, h4]
theorem neq_id (w : World) (a b c d a' b' c' d' : Int) : (binOp .neq 28 (.agg #[.int .u8 a, .int .u32 b, .int .u8 c, .int .i64 d]) (.agg #[.int .u8 a', .int .u32 b', .int .u8 c', .int .i64 d'])).run Try.prog w = .ok (.bool (!sameI a b c d a' b' c' d')) w := by
  have e1 := stoodI
  unfold sameI
  by_cases h1 : a = a' <;> by_cases h2 : b = b' <;> by_cases h3 : c = c' <;> by_cases h4 : d = d' <;> simp [go_sem, e1, h1, h2, h3, h4]
theorem eql_handle (w : World) (a b c a' b' c' : Int) : (binOp .eql 26 (.agg #[.int .u8 a, .int .u32 b, .int .u8 c]) (.agg #[.int .u8 a', .int .u32 b', .int .u8 c'])).run Try.prog w = .ok (.bool (sameH a b c a' b' c')) w := by
  have e1 := stoodH
  unfold sameH
  by_cases h1 : a = a' <;> by_cases h2 : b = b' <;> by_cases h3 : c = c' <;> simp [go_sem, e1, h1, h2, h3]
set_option maxHeartbeats 400000 in
theorem eql_span (w : World) (a b c d m a' b' c' d' m' : Int) : (binOp .eql 32 (.agg #[.int .u8 a, .int .u32 b, .int .u8 c, .int .i64 d, .int .i64 m]) (.agg #[.int .u8 a', .int .u32 b', .int .u8 c', .int .i64 d', .int .i64 m'])).run Try.prog w = .ok (.bool (sameS a b c d m a' b' c' d' m')) w := by
  have e1 := stoodS
  unfold sameS
  by_cases h1 : a = a' <;> by_cases h2 : b = b' <;> by_cases h3 : c = c' <;> by_cases h4 : d = d' <;> by_cases h5 : m = m' <;> simp [go_sem, e1, h1, h2, h3, h4, h5]

end Go.Proofs.Ytbhglgcnoidddaa
