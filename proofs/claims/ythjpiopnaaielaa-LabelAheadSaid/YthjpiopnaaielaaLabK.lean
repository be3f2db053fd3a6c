/-
  What all statements of layer 1 share: how a label that comes in is opened.
-/
import Derived.Test.YthjpiopnaaielaaLabM
import Derived.Test.YthjpiopnaaielaaLaw
namespace Go.Proofs.Ythjpiopnaaielaa
open Go.ChangeShapes Go.WideShapes Go.ChangeAt Go.RowKit Go.Joins
set_option linter.unusedVariables false

theorem own : ownKnob Try.prog.godebug = none := by kernel_rfl
theorem laidOut : laidOutB Try.prog = true := by kernel_rfl
theorem cellsLabel : Try.prog.cellsOf 24 = 2 := by kernel_rfl

theorem open_label {H : Type} {enc : TypeId × Value → H} {W : World} {base b0 : Nat} {spare : Nat → Bool} {held : Bool} {v : Value} {d : DataW H} {p : List MemPlace} {r : Reach}
    (hv : Value.okWide Try.prog W r b0 24 v) (h : DataW.Trod enc Try.prog W base spare held 24 v d p) : ∃ l c : Int, v = .agg #[.int .u8 l, .int .u32 c] ∧ Lab l c := by
  obtain ⟨c0, c1, y0, y1, m, rfl, rfl, rfl, hy0, hy1⟩ := open_agg2 Try.underlying24 (by kernel_rfl) cellsLabel hv h
  obtain ⟨a, e0, rfl, wa⟩ := DataW.trod_int Try.underlying5 hy0
  obtain ⟨b, e1, rfl, wb⟩ := DataW.trod_int Try.underlying22 hy1
  simp at e0 e1
  subst e0 e1
  exact ⟨a, b, rfl, (bounds_u8 wa).1, (bounds_u8 wa).2, (bounds_u32 wb).1, (bounds_u32 wb).2⟩

theorem check_of (l c k : Int) (w : World) (h : ck l = k) :
    Calls Try.prog 13 #[.agg #[.int .u8 l, .int .u32 c]] w fun e w' => e = .returned (.int .i64 k) ∧ Below w.heap.size w w' := by subst h; exact check_any l c w

end Go.Proofs.Ythjpiopnaaielaa
