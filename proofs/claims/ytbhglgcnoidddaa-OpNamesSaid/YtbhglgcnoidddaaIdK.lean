/-
  What the statements of layer 5 share: how what comes in is opened; alive.
-/
import Derived.Test.YtbhglgcnoidddaaOpM
import Derived.Test.YtbhglgcnoidddaaLaw
import Derived.BigQuiet
import Derived.Deep.RegionHeld
namespace Go.Proofs.Ytbhglgcnoidddaa
open Go.ChangeShapes Go.WideShapes Go.ChangeAt Go.RowKit Go.Joins
set_option linter.unusedVariables false
set_option maxRecDepth 100000

theorem own : ownKnob Try.prog.godebug = none := by kernel_rfl
theorem laidOut : laidOutB Try.prog = true := by kernel_rfl
theorem cells_u8 : Try.prog.cellsOf 5 = 1 := by kernel_rfl
theorem cells_u32 : Try.prog.cellsOf 22 = 1 := by kernel_rfl
theorem cells_int : Try.prog.cellsOf 3 = 1 := by kernel_rfl
theorem cells_L : Try.prog.cellsOf 24 = 2 := by kernel_rfl
theorem cells_H : Try.prog.cellsOf 26 = 3 := by kernel_rfl
theorem cells_I : Try.prog.cellsOf 28 = 4 := by kernel_rfl
theorem cells_S : Try.prog.cellsOf 32 = 5 := by kernel_rfl

section
variable {H : Type} {enc : TypeId × Value → H} {W : World} {base : Nat} {spare : Nat → Bool} {held : Bool}
theorem trod_label {fuel : Nat} {cs : List Value} {x : DataW H × List MemPlace} (h : DataW.trod enc Try.prog W base spare held fuel 24 cs = some x) : ∃ l c : Int, cs = [.int .u8 l, .int .u32 c] ∧ Lab l c := by
  obtain ⟨xs, fu, rfl, hx, hlen, hl, hf⟩ := DataW.trod_struct Try.underlying24 h
  have h0 := hf 0 _ rfl
  have h1 := hf 1 _ rfl
  rw [cells_L] at hlen
  match xs, hl with
  | [y0, y1], _ =>
    obtain ⟨a, e0, rfl, wa⟩ := DataW.trod_int Try.underlying5 h0
    obtain ⟨b, e1, rfl, wb⟩ := DataW.trod_int Try.underlying22 h1
    replace e0 : (cs.drop 0).take 1 = [.int .u8 a] := by rw [← cells_u8]; exact e0
    replace e1 : (cs.drop 1).take 1 = [.int .u32 b] := by rw [← cells_u32]; exact e1
    match cs, hlen with
    | [c0, c1], _ =>
      simp at e0 e1
      subst e0 e1
      exact ⟨a, b, rfl, (bounds_u8 wa).1, (bounds_u8 wa).2, (bounds_u32 wb).1, (bounds_u32 wb).2⟩
theorem trod_handle {fuel : Nat} {cs : List Value} {x : DataW H × List MemPlace} (h : DataW.trod enc Try.prog W base spare held fuel 26 cs = some x) : ∃ l c k : Int, cs = [.int .u8 l, .int .u32 c, .int .u8 k] ∧ Han l c k := by
  obtain ⟨xs, fu, rfl, hx, hlen, hl, hf⟩ := DataW.trod_struct Try.underlying26 h
  have h0 := hf 0 _ rfl
  have h1 := hf 1 _ rfl
  rw [cells_H] at hlen
  match xs, hl with
  | [y0, y1], _ =>
    obtain ⟨l, c, e0, hlab⟩ := trod_label h0
    obtain ⟨b, e1, rfl, wb⟩ := DataW.trod_int Try.underlying5 h1
    replace e0 : (cs.drop 0).take 2 = [.int .u8 l, .int .u32 c] := by rw [← cells_L]; exact e0
    replace e1 : (cs.drop 2).take 1 = [.int .u8 b] := by rw [← cells_u8]; exact e1
    match cs, hlen with
    | [c0, c1, c2], _ =>
      simp at e0 e1
      obtain ⟨rfl, rfl⟩ := e0
      subst e1
      exact ⟨l, c, b, rfl, hlab, (bounds_u8 wb).1, (bounds_u8 wb).2⟩
theorem trod_id {fuel : Nat} {cs : List Value} {x : DataW H × List MemPlace} (h : DataW.trod enc Try.prog W base spare held fuel 28 cs = some x) : ∃ l c k n : Int, cs = [.int .u8 l, .int .u32 c, .int .u8 k, .int .i64 n] ∧ Idn l c k n := by
  obtain ⟨xs, fu, rfl, hx, hlen, hl, hf⟩ := DataW.trod_struct Try.underlying28 h
  have h0 := hf 0 _ rfl
  have h1 := hf 1 _ rfl
  rw [cells_I] at hlen
  match xs, hl with
  | [y0, y1], _ =>
    obtain ⟨l, c, k, e0, hlab⟩ := trod_handle h0
    obtain ⟨b, e1, rfl, wb⟩ := DataW.trod_int Try.underlying3 h1
    replace e0 : (cs.drop 0).take 3 = [.int .u8 l, .int .u32 c, .int .u8 k] := by rw [← cells_H]; exact e0
    replace e1 : (cs.drop 3).take 1 = [.int .i64 b] := by rw [← cells_int]; exact e1
    match cs, hlen with
    | [c0, c1, c2, c3], _ =>
      simp at e0 e1
      obtain ⟨rfl, rfl, rfl⟩ := e0
      subst e1
      have hb := bounds_i64 wb
      exact ⟨l, c, k, b, rfl, hlab, by omega, by omega⟩
theorem trod_span {fuel : Nat} {cs : List Value} {x : DataW H × List MemPlace} (h : DataW.trod enc Try.prog W base spare held fuel 32 cs = some x) : ∃ l c k n m : Int, cs = [.int .u8 l, .int .u32 c, .int .u8 k, .int .i64 n, .int .i64 m] ∧ Spn l c k n m := by
  obtain ⟨xs, fu, rfl, hx, hlen, hl, hf⟩ := DataW.trod_struct Try.underlying32 h
  have h0 := hf 0 _ rfl
  have h1 := hf 1 _ rfl
  rw [cells_S] at hlen
  match xs, hl with
  | [y0, y1], _ =>
    obtain ⟨l, c, k, n, e0, hlab⟩ := trod_id h0
    obtain ⟨b, e1, rfl, wb⟩ := DataW.trod_int Try.underlying3 h1
    replace e0 : (cs.drop 0).take 4 = [.int .u8 l, .int .u32 c, .int .u8 k, .int .i64 n] := by rw [← cells_I]; exact e0
    replace e1 : (cs.drop 4).take 1 = [.int .i64 b] := by rw [← cells_int]; exact e1
    match cs, hlen with
    | [c0, c1, c2, c3, c4], _ =>
      simp at e0 e1
      obtain ⟨rfl, rfl, rfl, rfl⟩ := e0
      subst e1
      have hb := bounds_i64 wb
      exact ⟨l, c, k, n, b, rfl, hlab, by omega, by omega⟩
end

section
variable {H : Type} {enc : TypeId × Value → H} {W : World} {base b0 : Nat} {spare : Nat → Bool} {held : Bool} {v : Value} {d : DataW H} {p : List MemPlace} {r : Reach}
theorem open_id (hv : Value.okWide Try.prog W r b0 28 v) (h : DataW.Trod enc Try.prog W base spare held 28 v d p) : ∃ l c k n : Int, v = .agg #[.int .u8 l, .int .u32 c, .int .u8 k, .int .i64 n] ∧ Idn l c k n := by
  obtain ⟨cs, rfl, hsz⟩ := okWide_struct Try.underlying28 hv
  obtain ⟨fuel, hf⟩ := h
  obtain ⟨l, c, k, n, e, hi⟩ := trod_id hf
  refine ⟨l, c, k, n, ?_, hi⟩
  obtain ⟨cs⟩ := cs
  simp only [Value.cells] at e
  rw [e]
theorem open_span (hv : Value.okWide Try.prog W r b0 32 v) (h : DataW.Trod enc Try.prog W base spare held 32 v d p) : ∃ l c k n m : Int, v = .agg #[.int .u8 l, .int .u32 c, .int .u8 k, .int .i64 n, .int .i64 m] ∧ Spn l c k n m := by
  obtain ⟨cs, rfl, hsz⟩ := okWide_struct Try.underlying32 hv
  obtain ⟨fuel, hf⟩ := h
  obtain ⟨l, c, k, n, m, e, hi⟩ := trod_span hf
  refine ⟨l, c, k, n, m, ?_, hi⟩
  obtain ⟨cs⟩ := cs
  simp only [Value.cells] at e
  rw [e]
theorem open_i64 (hv : Value.okWide Try.prog W r b0 3 v) (h : DataW.Trod enc Try.prog W base spare held 3 v d p) : ∃ x : Int, v = .int .i64 x ∧ In64 x := by
  obtain ⟨x, rfl, rfl, rfl, wx⟩ := open_int Try.underlying3 hv h
  have hb := bounds_i64 wx
  exact ⟨x, rfl, by omega, by omega⟩
theorem open_bytes (hv : Value.okWide Try.prog W r b0 44 v) (h : DataW.Trod enc Try.prog W base spare held 44 v d p) : ∃ (A : Option Addr) (n c : Nat) (l : List UInt8), v = .slice A n c ∧ Hid (l.length = n) ∧ Rd W A c l :=
  open_rd Try.underlying44 Try.underlying5 cells_u8 hv h
end
end Go.Proofs.Ytbhglgcnoidddaa
