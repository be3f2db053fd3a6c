/-
  What the statements of layer 2 share: how what comes in is opened.
-/
import Derived.Test.YtddhbcpohedbnaaNumC
import Derived.Test.YtddhbcpohedbnaaLaw
namespace Go.Proofs.Ytddhbcpohedbnaa
open Go.ChangeShapes Go.WideShapes Go.ChangeAt Go.RowKit Go.Joins
set_option linter.unusedVariables false

theorem own : ownKnob Try.prog.godebug = none := by kernel_rfl
theorem laidOut : laidOutB Try.prog = true := by kernel_rfl
theorem cells_u8 : Try.prog.cellsOf 5 = 1 := by kernel_rfl

theorem open_i64 {H : Type} {enc : TypeId × Value → H} {W : World} {base b0 : Nat} {spare : Nat → Bool} {held : Bool} {v : Value} {d : DataW H} {p : List MemPlace} {r : Reach}
    (hv : Value.okWide Try.prog W r b0 3 v) (h : DataW.Trod enc Try.prog W base spare held 3 v d p) : ∃ x : Int, v = .int .i64 x ∧ -9223372036854775808 ≤ x ∧ x < 9223372036854775808 := by
  obtain ⟨x, rfl, rfl, rfl, wx⟩ := open_int Try.underlying3 hv h
  have hb := bounds_i64 wx
  exact ⟨x, rfl, by omega, by omega⟩
theorem open_u8 {H : Type} {enc : TypeId × Value → H} {W : World} {base b0 : Nat} {spare : Nat → Bool} {held : Bool} {v : Value} {d : DataW H} {p : List MemPlace} {r : Reach}
    (hv : Value.okWide Try.prog W r b0 5 v) (h : DataW.Trod enc Try.prog W base spare held 5 v d p) : ∃ x : Int, v = .int .u8 x ∧ 0 ≤ x ∧ x ≤ 255 := by
  obtain ⟨x, rfl, rfl, rfl, wx⟩ := open_int Try.underlying5 hv h
  exact ⟨x, rfl, (bounds_u8 wx).1, (bounds_u8 wx).2⟩
theorem open_bytes {H : Type} {enc : TypeId × Value → H} {W : World} {base b0 : Nat} {spare : Nat → Bool} {held : Bool} {v : Value} {d : DataW H} {p : List MemPlace} {r : Reach}
    (hv : Value.okWide Try.prog W r b0 25 v) (h : DataW.Trod enc Try.prog W base spare held 25 v d p) : ∃ (A : Option Addr) (n c : Nat) (l : List UInt8), v = .slice A n c ∧ Hid (l.length = n) ∧ Rd W A c l :=
  open_rd Try.underlying25 Try.underlying5 cells_u8 hv h

theorem put_no {n : Int} (h : may n = false) : putB n = [] ∧ ([] : List UInt8).length = 0 ∧ putE n = 2 := by simp [putB, putE, h]
theorem put_yes {n : Nat} (h : n < 72057594037927936) : ∃ l k, enc n = l ∧ putB (n : Int) = l ∧ l.length = k ∧ putE (n : Int) = 0 := by
  refine ⟨_, _, rfl, putB_of h, rfl, ?_⟩
  simp [putE, may_of h]
theorem rd_past {W : World} {A : Option Addr} {n c : Nat} {l : List UInt8} (hn : Hid (l.length = n)) (hr : Rd W A c l) (x : Past W) : (convert 25 9 (.slice A n c)).run Try.prog x.1 = .ok (.string ⟨l.toArray⟩) x.1 := rd_string hn (hr.keep x.2)
end Go.Proofs.Ytddhbcpohedbnaa
