/-
  An element of an array of four functions.
-/
import Derived.Test.YtbhglgcnoidddaaOpL
namespace Go.Proofs.Ytbhglgcnoidddaa
open Go.RowKit
set_option linter.unusedVariables false
set_option linter.unusedSimpArgs false

theorem index_62 (W : World) (v0 : Value) (F1 F2 F3 : Fn) (a1 b1 a2 b2 a3 b3 : Array Value) :
    (Instr.index 62 (.agg #[v0, .func F1 a1 b1, .func F2 a2 b2, .func F3 a3 b3]) (.int .u8 1)).run Try.prog W = .ok (.func F1 a1 b1) W ∧
    (Instr.index 62 (.agg #[v0, .func F1 a1 b1, .func F2 a2 b2, .func F3 a3 b3]) (.int .u8 2)).run Try.prog W = .ok (.func F2 a2 b2) W ∧
    (Instr.index 62 (.agg #[v0, .func F1 a1 b1, .func F2 a2 b2, .func F3 a3 b3]) (.int .u8 3)).run Try.prog W = .ok (.func F3 a3 b3) W := by
  have h := Try.underlying62
  refine ⟨?_, ?_, ?_⟩ <;> simp [go_sem, Instr.index, run_underlying h, part, asAgg, asIntOf]
theorem index_74 (W : World) (v0 : Value) (F1 F2 F3 : Fn) (a1 b1 a2 b2 a3 b3 : Array Value) :
    (Instr.index 74 (.agg #[v0, .func F1 a1 b1, .func F2 a2 b2, .func F3 a3 b3]) (.int .u8 1)).run Try.prog W = .ok (.func F1 a1 b1) W ∧
    (Instr.index 74 (.agg #[v0, .func F1 a1 b1, .func F2 a2 b2, .func F3 a3 b3]) (.int .u8 2)).run Try.prog W = .ok (.func F2 a2 b2) W ∧
    (Instr.index 74 (.agg #[v0, .func F1 a1 b1, .func F2 a2 b2, .func F3 a3 b3]) (.int .u8 3)).run Try.prog W = .ok (.func F3 a3 b3) W := by
  have h := Try.underlying74
  refine ⟨?_, ?_, ?_⟩ <;> simp [go_sem, Instr.index, run_underlying h, part, asAgg, asIntOf]
end Go.Proofs.Ytbhglgcnoidddaa
