/-
  What the statements of layer 5 share: how what comes in is opened; alive.
-/
import Derived.Test.YtpmpngdejikhhaaIdP
import Derived.Test.YtpmpngdejikhhaaLaw
import Derived.BigQuiet
import Derived.Deep.RegionHeld
namespace Go.Proofs.Ytpmpngdejikhhaa
open Go.ChangeShapes Go.WideShapes Go.ChangeAt Go.RowKit Go.Joins
set_option linter.unusedVariables false

theorem own : ownKnob Try.prog.godebug = none := by kernel_rfl
theorem laidOut : laidOutB Try.prog = true := by kernel_rfl
theorem cells_u8 : Try.prog.cellsOf 5 = 1 := by kernel_rfl
theorem cells_u32 : Try.prog.cellsOf 22 = 1 := by kernel_rfl
theorem cells_int : Try.prog.cellsOf 3 = 1 := by kernel_rfl
theorem cells_L : Try.prog.cellsOf 24 = 2 := by kernel_rfl
theorem cells_H : Try.prog.cellsOf 26 = 3 := by kernel_rfl
theorem cells_I : Try.prog.cellsOf 28 = 4 := by kernel_rfl
theorem cells_S : Try.prog.cellsOf 31 = 5 := by kernel_rfl

/-- The numbers of a handle, an id, a span are of their kinds. -/
structure Han (l c k : Int) : Prop where
  lab : Lab l c
  k0 : 0 ≤ k
  k1 : k ≤ 255
def In64 (n : Int) : Prop := -9223372036854775808 ≤ n ∧ n ≤ 9223372036854775807
structure Idn (l c k n : Int) : Prop where
  han : Han l c k
  n64 : In64 n
structure Spn (l c k n m : Int) : Prop where
  idn : Idn l c k n
  m64 : In64 m

section
variable {H : Type} {enc : TypeId × Value → H} {W : World} {base : Nat} {spare : Nat → Bool} {held : Bool}
theorem trod_label {fuel : Nat} {cs : List Value} {x : DataW H × List MemPlace} (h : DataW.trod enc Try.prog W base spare held fuel 24 cs = some x) : ∃ l c : Int, cs = [.int .u8 l, .int .u32 c] ∧ Lab l c := by
  obtain ⟨xs, fu, rfl, hx, hlen, hl, hf⟩ := DataW.trod_struct Try.underlying24 h
  have h0 := hf 0 _ rfl
  have h1 := hf 1 _ rfl
  rw [cells_L] at hlen
  match xs, hl with
  | [y0, y1], _ =>
    obtain ⟨a, e0, rfl, wa⟩ := DataW.trod_int Try.underlying5 h0
    obtain ⟨b, e1, rfl, wb⟩ := DataW.trod_int Try.underlying22 h1
    replace e0 : (cs.drop 0).take 1 = [.int .u8 a] := by rw [← cells_u8]; exact e0
    replace e1 : (cs.drop 1).take 1 = [.int .u32 b] := by rw [← cells_u32]; exact e1
    match cs, hlen with
    | [c0, c1], _ =>
      simp at e0 e1
      subst e0 e1
      exact ⟨a, b, rfl, (bounds_u8 wa).1, (bounds_u8 wa).2, (bounds_u32 wb).1, (bounds_u32 wb).2⟩
theorem trod_handle {fuel : Nat} {cs : List Value} {x : DataW H × List MemPlace} (h : DataW.trod enc Try.prog W base spare held fuel 26 cs = some x) : ∃ l c k : Int, cs = [.int .u8 l, .int .u32 c, .int .u8 k] ∧ Han l c k := by
  obtain ⟨xs, fu, rfl, hx, hlen, hl, hf⟩ := DataW.trod_struct Try.underlying26 h
  have h0 := hf 0 _ rfl
  have h1 := hf 1 _ rfl
  rw [cells_H] at hlen
  match xs, hl with
  | [y0, y1], _ =>
    obtain ⟨l, c, e0, hlab⟩ := trod_label h0
    obtain ⟨b, e1, rfl, wb⟩ := DataW.trod_int Try.underlying5 h1
    replace e0 : (cs.drop 0).take 2 = [.int .u8 l, .int .u32 c] := by rw [← cells_L]; exact e0
    replace e1 : (cs.drop 2).take 1 = [.int .u8 b] := by rw [← cells_u8]; exact e1
    match cs, hlen with
    | [c0, c1, c2], _ =>
      simp at e0 e1
      obtain ⟨rfl, rfl⟩ := e0
      subst e1
      exact ⟨l, c, b, rfl, hlab, (bounds_u8 wb).1, (bounds_u8 wb).2⟩
theorem trod_id {fuel : Nat} {cs : List Value} {x : DataW H × List MemPlace} (h : DataW.trod enc Try.prog W base spare held fuel 28 cs = some x) : ∃ l c k n : Int, cs = [.int .u8 l, .int .u32 c, .int .u8 k, .int .i64 n] ∧ Idn l c k n := by
  obtain ⟨xs, fu, rfl, hx, hlen, hl, hf⟩ := DataW.trod_struct Try.underlying28 h
  have h0 := hf 0 _ rfl
  have h1 := hf 1 _ rfl
  rw [cells_I] at hlen
  match xs, hl with
  | [y0, y1], _ =>
    obtain ⟨l, c, k, e0, hlab⟩ := trod_handle h0
    obtain ⟨b, e1, rfl, wb⟩ := DataW.trod_int Try.underlying3 h1
    replace e0 : (cs.drop 0).take 3 = [.int .u8 l, .int .u32 c, .int .u8 k] := by rw [← cells_H]; exact e0
    replace e1 : (cs.drop 3).take 1 = [.int .i64 b] := by rw [← cells_int]; exact e1
    match cs, hlen with
    | [c0, c1, c2, c3], _ =>
      simp at e0 e1
      obtain ⟨rfl, rfl, rfl⟩ := e0
      subst e1
      have hb := bounds_i64 wb
      exact ⟨l, c, k, b, rfl, hlab, by omega, by omega⟩
theorem trod_span {fuel : Nat} {cs : List Value} {x : DataW H × List MemPlace} (h : DataW.trod enc Try.prog W base spare held fuel 31 cs = some x) : ∃ l c k n m : Int, cs = [.int .u8 l, .int .u32 c, .int .u8 k, .int .i64 n, .int .i64 m] ∧ Spn l c k n m := by
  obtain ⟨xs, fu, rfl, hx, hlen, hl, hf⟩ := DataW.trod_struct Try.underlying31 h
  have h0 := hf 0 _ rfl
  have h1 := hf 1 _ rfl
  rw [cells_S] at hlen
  match xs, hl with
  | [y0, y1], _ =>
    obtain ⟨l, c, k, n, e0, hlab⟩ := trod_id h0
    obtain ⟨b, e1, rfl, wb⟩ := DataW.trod_int Try.underlying3 h1
    replace e0 : (cs.drop 0).take 4 = [.int .u8 l, .int .u32 c, .int .u8 k, .int .i64 n] := by rw [← cells_I]; exact e0
    replace e1 : (cs.drop 4).take 1 = [.int .i64 b] := by rw [← cells_int]; exact e1
    match cs, hlen with
    | [c0, c1, c2, c3, c4], _ =>
      simp at e0 e1
      obtain ⟨rfl, rfl, rfl, rfl⟩ := e0
      subst e1
      have hb := bounds_i64 wb
      exact ⟨l, c, k, n, b, rfl, hlab, by omega, by omega⟩
end

section
variable {H : Type} {enc : TypeId × Value → H} {W : World} {base b0 : Nat} {spare : Nat → Bool} {held : Bool} {v : Value} {d : DataW H} {p : List MemPlace} {r : Reach}
theorem open_id (hv : Value.okWide Try.prog W r b0 28 v) (h : DataW.Trod enc Try.prog W base spare held 28 v d p) : ∃ l c k n : Int, v = .agg #[.int .u8 l, .int .u32 c, .int .u8 k, .int .i64 n] ∧ Idn l c k n := by
  obtain ⟨cs, rfl, hsz⟩ := okWide_struct Try.underlying28 hv
  obtain ⟨fuel, hf⟩ := h
  obtain ⟨l, c, k, n, e, hi⟩ := trod_id hf
  refine ⟨l, c, k, n, ?_, hi⟩
  obtain ⟨cs⟩ := cs
  simp only [Value.cells] at e
  rw [e]
theorem open_span (hv : Value.okWide Try.prog W r b0 31 v) (h : DataW.Trod enc Try.prog W base spare held 31 v d p) : ∃ l c k n m : Int, v = .agg #[.int .u8 l, .int .u32 c, .int .u8 k, .int .i64 n, .int .i64 m] ∧ Spn l c k n m := by
  obtain ⟨cs, rfl, hsz⟩ := okWide_struct Try.underlying31 hv
  obtain ⟨fuel, hf⟩ := h
  obtain ⟨l, c, k, n, m, e, hi⟩ := trod_span hf
  refine ⟨l, c, k, n, m, ?_, hi⟩
  obtain ⟨cs⟩ := cs
  simp only [Value.cells] at e
  rw [e]
theorem open_i64 (hv : Value.okWide Try.prog W r b0 3 v) (h : DataW.Trod enc Try.prog W base spare held 3 v d p) : ∃ x : Int, v = .int .i64 x ∧ In64 x := by
  obtain ⟨x, rfl, rfl, rfl, wx⟩ := open_int Try.underlying3 hv h
  have hb := bounds_i64 wx
  exact ⟨x, rfl, by omega, by omega⟩
theorem open_bytes (hv : Value.okWide Try.prog W r b0 40 v) (h : DataW.Trod enc Try.prog W base spare held 40 v d p) : ∃ (A : Option Addr) (n c : Nat) (l : List UInt8), v = .slice A n c ∧ Hid (l.length = n) ∧ Rd W A c l :=
  open_rd Try.underlying40 Try.underlying5 cells_u8 hv h
end

set_option maxRecDepth 100000 in
set_option maxHeartbeats 1600000 in
theorem alive_any (w : World) :
    Calls Try.prog 15 #[] w fun e w' => e = .returned (.bool true) ∧ Below w.heap.size w w' := by
  have HP : Hid ((if mayI 1 2 9 = true then iby 1 1 2 (9 : Int).toNat else []) = [1, 0, 0, 0, 1, 2, 0, 0, 0, 0, 0, 0, 9] ∧ ([1, 0, 0, 0, 1, 2, 0, 0, 0, 0, 0, 0, 9] : List UInt8).length = 13 ∧ er (mayI 1 2 9) = 0) := hid (by decide +kernel)
  have HN : Hid (Hn 1 1 2 1 1 2) := hid ⟨by decide, by decide, by decide, by decide, by decide, by decide⟩
  go_enter Try.func15, Try.ntmps15
  go_wp2_with fail
  go_call by_any 1 2 9 _ as e w1 ⟨rfl, b1⟩
  go_wp2_with fail
  refine (putId_of [1, 0, 0, 0, 1, 2, 0, 0, 0, 0, 0, 0, 9] 13 0 1 1 2 9 1 1 2 HN HP _).mono ?_
  rintro e w2 ⟨A, c, rfl, hr, b2⟩
  have hb : Below w.heap.size w w2 := below_in (b1.alloc b1.size _) b2
  (have k0 : w2.cell? ⟨w1.heap.size, 0, none⟩ = some (.int .u8 1) := (keep b2 (by simp)); have k1 : w2.cell? ⟨w1.heap.size, 1, none⟩ = some (.int .u32 1) := (keep b2 (by simp)); have k2 : w2.cell? ⟨w1.heap.size, 2, none⟩ = some (.int .u8 2) := (keep b2 (by simp)); have k3 : w2.cell? ⟨w1.heap.size, 3, none⟩ = some (.int .i64 9) := (keep b2 (by simp)))
  clear b2
  have s1 := fun x : Past w2 => rd_string (n := 13) (hid rfl) (hr.keep x.2)
  go_wp2_with fail
  (have q0 := Past.all k0; have q1 := Past.all k1; have q2 := Past.all k2; have q3 := Past.all k3)
  refine wp_region_past (by kernel_rfl) (by kernel_rfl) ?_
  repeat (go_big_quiet_step (first | exact quiet_below (by_any _ _ _ _) | exact quiet_below (less_of true _ _ _ _ _ _ _ _ _ (by decide)) | exact quiet_below (less_of false _ _ _ _ _ _ _ _ _ (by decide))))
  refine wpQuiet_nil ?_
  rintro _ ⟨⟨w7, h⟩, rfl⟩
  clear q0 q1 q2 q3 s1
  go_wp2
  go_ret
  exact ⟨rfl, below_in hb h⟩
end Go.Proofs.Ytpmpngdejikhhaa
