/-
  How an operation, a row, a byte that come in are opened.
-/
import Derived.Test.YtndmblhkmgnpcaaGreatOA
import Derived.Test.YtndmblhkmgnpcaaGreatLaw
import Derived.BigQuiet
import Derived.Deep.RegionHeld
import Derived.Test.YtndmblhkmgnpcaaGreatMem
namespace Go.Proofs.YtndmblhkmgnpcaaGreat
open Go.ChangeShapes Go.WideShapes Go.ChangeAt Go.RowKit Go.Joins
set_option linter.unusedVariables false
set_option maxRecDepth 100000

theorem own : ownKnob Tryz.prog.godebug = none := by kernel_rfl
theorem laidOut : laidOutB Tryz.prog = true := by kernel_rfl
theorem cells_u8 : Tryz.prog.cellsOf 5 = 1 := by kernel_rfl
theorem cells_u32 : Tryz.prog.cellsOf 22 = 1 := by kernel_rfl
theorem cells_int : Tryz.prog.cellsOf 3 = 1 := by kernel_rfl
theorem cells_L : Tryz.prog.cellsOf 24 = 2 := by kernel_rfl
theorem cells_H : Tryz.prog.cellsOf 26 = 3 := by kernel_rfl
theorem cells_I : Tryz.prog.cellsOf 28 = 4 := by kernel_rfl
theorem cells_S : Tryz.prog.cellsOf 30 = 5 := by kernel_rfl

section
variable {H : Type} {enc : TypeId × Value → H} {W : World} {base : Nat} {spare : Nat → Bool} {held : Bool}
theorem trod_label {fuel : Nat} {cs : List Value} {x : DataW H × List MemPlace} (h : DataW.trod enc Tryz.prog W base spare held fuel 24 cs = some x) : ∃ l c : Int, cs = [.int .u8 l, .int .u32 c] ∧ Lab l c := by
  obtain ⟨xs, fu, rfl, hx, hlen, hl, hf⟩ := DataW.trod_struct Tryz.underlying24 h
  have h0 := hf 0 _ rfl
  have h1 := hf 1 _ rfl
  rw [cells_L] at hlen
  match xs, hl with
  | [y0, y1], _ =>
    obtain ⟨a, e0, rfl, wa⟩ := DataW.trod_int Tryz.underlying5 h0
    obtain ⟨b, e1, rfl, wb⟩ := DataW.trod_int Tryz.underlying22 h1
    replace e0 : (cs.drop 0).take 1 = [.int .u8 a] := by rw [← cells_u8]; exact e0
    replace e1 : (cs.drop 1).take 1 = [.int .u32 b] := by rw [← cells_u32]; exact e1
    match cs, hlen with
    | [c0, c1], _ =>
      simp at e0 e1
      subst e0 e1
      exact ⟨a, b, rfl, (bounds_u8 wa).1, (bounds_u8 wa).2, (bounds_u32 wb).1, (bounds_u32 wb).2⟩
theorem trod_handle {fuel : Nat} {cs : List Value} {x : DataW H × List MemPlace} (h : DataW.trod enc Tryz.prog W base spare held fuel 26 cs = some x) : ∃ l c k : Int, cs = [.int .u8 l, .int .u32 c, .int .u8 k] ∧ Han l c k := by
  obtain ⟨xs, fu, rfl, hx, hlen, hl, hf⟩ := DataW.trod_struct Tryz.underlying26 h
  have h0 := hf 0 _ rfl
  have h1 := hf 1 _ rfl
  rw [cells_H] at hlen
  match xs, hl with
  | [y0, y1], _ =>
    obtain ⟨l, c, e0, hlab⟩ := trod_label h0
    obtain ⟨b, e1, rfl, wb⟩ := DataW.trod_int Tryz.underlying5 h1
    replace e0 : (cs.drop 0).take 2 = [.int .u8 l, .int .u32 c] := by rw [← cells_L]; exact e0
    replace e1 : (cs.drop 2).take 1 = [.int .u8 b] := by rw [← cells_u8]; exact e1
    match cs, hlen with
    | [c0, c1, c2], _ =>
      simp at e0 e1
      obtain ⟨rfl, rfl⟩ := e0
      subst e1
      exact ⟨l, c, b, rfl, hlab, (bounds_u8 wb).1, (bounds_u8 wb).2⟩
theorem trod_id {fuel : Nat} {cs : List Value} {x : DataW H × List MemPlace} (h : DataW.trod enc Tryz.prog W base spare held fuel 28 cs = some x) : ∃ l c k n : Int, cs = [.int .u8 l, .int .u32 c, .int .u8 k, .int .i64 n] ∧ Idn l c k n := by
  obtain ⟨xs, fu, rfl, hx, hlen, hl, hf⟩ := DataW.trod_struct Tryz.underlying28 h
  have h0 := hf 0 _ rfl
  have h1 := hf 1 _ rfl
  rw [cells_I] at hlen
  match xs, hl with
  | [y0, y1], _ =>
    obtain ⟨l, c, k, e0, hlab⟩ := trod_handle h0
    obtain ⟨b, e1, rfl, wb⟩ := DataW.trod_int Tryz.underlying3 h1
    replace e0 : (cs.drop 0).take 3 = [.int .u8 l, .int .u32 c, .int .u8 k] := by rw [← cells_H]; exact e0
    replace e1 : (cs.drop 3).take 1 = [.int .i64 b] := by rw [← cells_int]; exact e1
    match cs, hlen with
    | [c0, c1, c2, c3], _ =>
      simp at e0 e1
      obtain ⟨rfl, rfl, rfl⟩ := e0
      subst e1
      have hb := bounds_i64 wb
      exact ⟨l, c, k, b, rfl, hlab, by omega, by omega⟩
theorem trod_span {fuel : Nat} {cs : List Value} {x : DataW H × List MemPlace} (h : DataW.trod enc Tryz.prog W base spare held fuel 30 cs = some x) : ∃ l c k n m : Int, cs = [.int .u8 l, .int .u32 c, .int .u8 k, .int .i64 n, .int .i64 m] ∧ Spn l c k n m := by
  obtain ⟨xs, fu, rfl, hx, hlen, hl, hf⟩ := DataW.trod_struct Tryz.underlying30 h
  have h0 := hf 0 _ rfl
  have h1 := hf 1 _ rfl
  rw [cells_S] at hlen
  match xs, hl with
  | [y0, y1], _ =>
    obtain ⟨l, c, k, n, e0, hlab⟩ := trod_id h0
    obtain ⟨b, e1, rfl, wb⟩ := DataW.trod_int Tryz.underlying3 h1
    replace e0 : (cs.drop 0).take 4 = [.int .u8 l, .int .u32 c, .int .u8 k, .int .i64 n] := by rw [← cells_I]; exact e0
    replace e1 : (cs.drop 4).take 1 = [.int .i64 b] := by rw [← cells_int]; exact e1
    match cs, hlen with
    | [c0, c1, c2, c3, c4], _ =>
      simp at e0 e1
      obtain ⟨rfl, rfl, rfl, rfl⟩ := e0
      subst e1
      have hb := bounds_i64 wb
      exact ⟨l, c, k, n, b, rfl, hlab, by omega, by omega⟩
end

section
variable {H : Type} {enc : TypeId × Value → H} {W : World} {base b0 : Nat} {spare : Nat → Bool} {held : Bool} {v : Value} {d : DataW H} {p : List MemPlace} {r : Reach}
theorem open_id (hv : Value.okWide Tryz.prog W r b0 28 v) (h : DataW.Trod enc Tryz.prog W base spare held 28 v d p) : ∃ l c k n : Int, v = .agg #[.int .u8 l, .int .u32 c, .int .u8 k, .int .i64 n] ∧ Idn l c k n := by
  obtain ⟨cs, rfl, hsz⟩ := okWide_struct Tryz.underlying28 hv
  obtain ⟨fuel, hf⟩ := h
  obtain ⟨l, c, k, n, e, hi⟩ := trod_id hf
  refine ⟨l, c, k, n, ?_, hi⟩
  obtain ⟨cs⟩ := cs
  simp only [Value.cells] at e
  rw [e]
theorem open_span (hv : Value.okWide Tryz.prog W r b0 30 v) (h : DataW.Trod enc Tryz.prog W base spare held 30 v d p) : ∃ l c k n m : Int, v = .agg #[.int .u8 l, .int .u32 c, .int .u8 k, .int .i64 n, .int .i64 m] ∧ Spn l c k n m := by
  obtain ⟨cs, rfl, hsz⟩ := okWide_struct Tryz.underlying30 hv
  obtain ⟨fuel, hf⟩ := h
  obtain ⟨l, c, k, n, m, e, hi⟩ := trod_span hf
  refine ⟨l, c, k, n, m, ?_, hi⟩
  obtain ⟨cs⟩ := cs
  simp only [Value.cells] at e
  rw [e]
theorem open_i64 (hv : Value.okWide Tryz.prog W r b0 3 v) (h : DataW.Trod enc Tryz.prog W base spare held 3 v d p) : ∃ x : Int, v = .int .i64 x ∧ In64 x := by
  obtain ⟨x, rfl, rfl, rfl, wx⟩ := open_int Tryz.underlying3 hv h
  have hb := bounds_i64 wx
  exact ⟨x, rfl, by omega, by omega⟩
theorem open_bytes (hv : Value.okWide Tryz.prog W r b0 51 v) (h : DataW.Trod enc Tryz.prog W base spare held 51 v d p) : ∃ (A : Option Addr) (n c : Nat) (l : List UInt8), v = .slice A n c ∧ Hid (l.length = n) ∧ Rd W A c l :=
  open_rd Tryz.underlying51 Tryz.underlying5 cells_u8 hv h
end
end Go.Proofs.YtndmblhkmgnpcaaGreat

namespace Go.Proofs.YtndmblhkmgnpcaaGreat
open Go.ChangeShapes Go.WideShapes Go.ChangeAt Go.RowKit Go.Joins
set_option linter.unusedVariables false
set_option maxRecDepth 100000

theorem cells_i32 : Tryz.prog.cellsOf 21 = 1 := by kernel_rfl
theorem cells_ri : Tryz.prog.cellsOf 31 = 1 := by kernel_rfl
theorem cells_O : Tryz.prog.cellsOf 33 = 17 := by kernel_rfl
theorem trod_row {H : Type} {enc : TypeId × Value → H} {W : World} {base : Nat} {spare : Nat → Bool} {held : Bool} {fuel : Nat} {cs : List Value} {x : DataW H × List MemPlace}
    (hf : DataW.trod enc Tryz.prog W base spare held fuel 31 cs = some x) : ∃ (A : Option Addr) (n c : Nat) (l : List Int), cs = [.slice A n c] ∧ Hid (l.length = n) ∧ Ri W A c l := by
  rcases open_ints Tryz.underlying31 Tryz.underlying21 cells_i32 hf with ⟨hcs, hx⟩ | ⟨a, len', cap', zs, hcs, _, hl, hm, hz, hx, hcell, hwz⟩
  · exact ⟨none, 0, 0, [], hcs, hid rfl, Ri.nil W⟩
  · have hzl : len' ≤ zs.length := by rw [hz]; split <;> omega
    have hlen : (zs.take len').length = len' := by rw [List.length_take]; omega
    have hb : ∀ x ∈ zs, -2147483648 ≤ x ∧ x ≤ 2147483647 := fun x hx => by
      exact bounds_i32 (hwz x hx)
    refine ⟨some a, len', cap', zs.take len', hcs, hid hlen, ⟨by rw [i32s_length]; omega, hm, fun hp => ?_⟩, fun x hx => hb x (List.mem_of_mem_take hx)⟩
    rw [i32s_length, hlen] at hp
    obtain ⟨ab, ao, spot⟩ := a
    have hspot : spot = none := by simpa [Addr.add] using World.cell?_spot (hcell 0 (by omega))
    subst hspot
    refine ⟨ab, ao, rfl, fun j hj => ?_⟩
    rw [i32s_length, hlen] at hj
    have hcj := hcell j (by omega)
    rw [Addr.add_lit] at hcj
    rw [hcj]
    simp [i32s, List.getD, List.getElem?_eq_getElem (show j < zs.length by omega)]
section
variable {H : Type} {enc : TypeId × Value → H} {W : World} {base b0 : Nat} {spare : Nat → Bool} {held : Bool} {v : Value} {d : DataW H} {p : List MemPlace} {r : Reach}
set_option maxHeartbeats 1600000 in
theorem trod_op {fuel : Nat} {cs : List Value} {x : DataW H × List MemPlace} (h : DataW.trod enc Tryz.prog W base spare held fuel 33 cs = some x) : ∃ (o : Opd) (A : Option Addr) (n c : Nat), cs = [.int .u8 o.kd, .int .u8 o.l, .int .u32 o.c, .int .u8 o.k, .int .i64 o.s, .int .u8 o.fl, .int .u32 o.fc, .int .u8 o.fk, .int .i64 o.fn, .int .i64 o.fm, .int .u8 o.al, .int .u32 o.ac, .int .u8 o.ak, .int .i64 o.an, .int .u8 o.tl, .int .u32 o.tc, .slice A n c] ∧ Opr o ∧ Hid (o.row.length = n) ∧ Ri W A c o.row := by
  obtain ⟨xs, fu, rfl, hx, hlen, hl, hf⟩ := DataW.trod_struct Tryz.underlying33 h
  have h0 := hf 0 _ rfl
  have h1 := hf 1 _ rfl
  have h2 := hf 2 _ rfl
  have h3 := hf 3 _ rfl
  have h4 := hf 4 _ rfl
  have h5 := hf 5 _ rfl
  have h6 := hf 6 _ rfl
  rw [cells_O] at hlen
  match xs, hl with
  | [y0, y1, y2, y3, y4, y5, y6], _ =>
    obtain ⟨kd, e0, rfl, w0⟩ := DataW.trod_int Tryz.underlying5 h0
    obtain ⟨l, c, k, e1, hB⟩ := trod_handle h1
    obtain ⟨s, e2, rfl, w2⟩ := DataW.trod_int Tryz.underlying3 h2
    obtain ⟨fl, fc, fk, fn, fm, e3, hS⟩ := trod_span h3
    obtain ⟨al, ac, ak, an, e4, hI⟩ := trod_id h4
    obtain ⟨tl, tc, e5, hL⟩ := trod_label h5
    obtain ⟨A, n, c', row, e6, hn, hr⟩ := trod_row h6
    replace e0 : (cs.drop 0).take 1 = [.int .u8 kd] := by rw [← cells_u8]; exact e0
    replace e1 : (cs.drop 1).take 3 = [.int .u8 l, .int .u32 c, .int .u8 k] := by rw [← cells_H]; exact e1
    replace e2 : (cs.drop 4).take 1 = [.int .i64 s] := by rw [← cells_int]; exact e2
    replace e3 : (cs.drop 5).take 5 = [.int .u8 fl, .int .u32 fc, .int .u8 fk, .int .i64 fn, .int .i64 fm] := by rw [← cells_S]; exact e3
    replace e4 : (cs.drop 10).take 4 = [.int .u8 al, .int .u32 ac, .int .u8 ak, .int .i64 an] := by rw [← cells_I]; exact e4
    replace e5 : (cs.drop 14).take 2 = [.int .u8 tl, .int .u32 tc] := by rw [← cells_L]; exact e5
    replace e6 : (cs.drop 16).take 1 = [.slice A n c'] := by rw [← cells_ri]; exact e6
    match cs, hlen with
    | [c0, c1, c2, c3, c4, c5, c6, c7, c8, c9, c10, c11, c12, c13, c14, c15, c16], _ =>
      simp only [List.drop_zero, List.drop_succ_cons, List.take_succ_cons, List.take_zero, List.cons.injEq, and_true] at e0 e1 e2 e3 e4 e5 e6
      obtain ⟨rfl, rfl, rfl⟩ := e1
      obtain ⟨rfl, rfl, rfl, rfl, rfl⟩ := e3
      obtain ⟨rfl, rfl, rfl, rfl⟩ := e4
      obtain ⟨rfl, rfl⟩ := e5
      subst e0 e2 e6
      have b2 := bounds_i64 w2
      exact ⟨⟨kd, l, c, k, s, fl, fc, fk, fn, fm, al, ac, ak, an, tl, tc, row⟩, A, n, c', rfl, ⟨(bounds_u8 w0).1, (bounds_u8 w0).2, hB, (show -9223372036854775808 ≤ s ∧ s ≤ 9223372036854775807 by omega), hS, hI, hL, hr.in32⟩, hn, hr⟩
theorem open_op (hv : Value.okWide Tryz.prog W r b0 33 v) (h : DataW.Trod enc Tryz.prog W base spare held 33 v d p) : ∃ (o : Opd) (A : Option Addr) (n c : Nat), v = .agg #[.int .u8 o.kd, .int .u8 o.l, .int .u32 o.c, .int .u8 o.k, .int .i64 o.s, .int .u8 o.fl, .int .u32 o.fc, .int .u8 o.fk, .int .i64 o.fn, .int .i64 o.fm, .int .u8 o.al, .int .u32 o.ac, .int .u8 o.ak, .int .i64 o.an, .int .u8 o.tl, .int .u32 o.tc, .slice A n c] ∧ Opr o ∧ Hid (o.row.length = n) ∧ Ri W A c o.row := by
  obtain ⟨cs, rfl, hsz⟩ := okWide_struct Tryz.underlying33 hv
  obtain ⟨fuel, hf⟩ := h
  obtain ⟨o, A, n, c, e, hi⟩ := trod_op hf
  refine ⟨o, A, n, c, ?_, hi⟩
  obtain ⟨cs⟩ := cs
  simp only [Value.cells] at e
  rw [e]
theorem open_row (hv : Value.okWide Tryz.prog W r b0 31 v) (h : DataW.Trod enc Tryz.prog W base spare held 31 v d p) : ∃ (A : Option Addr) (n c : Nat) (l : List Int), v = .slice A n c ∧ Hid (l.length = n) ∧ Ri W A c l :=
  open_ri Tryz.underlying31 Tryz.underlying21 cells_i32 hv h
theorem open_u8 (hv : Value.okWide Tryz.prog W r b0 5 v) (h : DataW.Trod enc Tryz.prog W base spare held 5 v d p) : ∃ x : Int, v = .int .u8 x ∧ 0 ≤ x ∧ x ≤ 255 := by
  obtain ⟨x, rfl, rfl, rfl, wx⟩ := open_int Tryz.underlying5 hv h
  have hb := bounds_u8 wx
  exact ⟨x, rfl, by omega, by omega⟩
end
end Go.Proofs.YtndmblhkmgnpcaaGreat
