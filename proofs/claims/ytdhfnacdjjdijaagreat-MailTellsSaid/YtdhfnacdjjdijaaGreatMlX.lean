/-
  How mail that comes in is opened.
-/
import Derived.Test.YtdhfnacdjjdijaaGreatOO
import Derived.Test.YtdhfnacdjjdijaaGreatMlW
import Derived.Laws.IdiomArrays
namespace Go.Proofs.YtdhfnacdjjdijaaGreat
open Go.ChangeShapes Go.WideShapes Go.ChangeAt Go.RowKit Go.Joins
set_option linter.unusedVariables false
set_option maxRecDepth 100000

theorem cells_told : Tryz.prog.cellsOf 24 = 4 := by kernel_rfl
theorem cells_M : Tryz.prog.cellsOf 27 = 12 := by kernel_rfl
theorem cells_lO : Tryz.prog.cellsOf 25 = 1 := by kernel_rfl
theorem cells_err : Tryz.prog.cellsOf 23 = 1 := by kernel_rfl
section
variable {H : Type} {enc : TypeId × Value → H} {W : World} {base : Nat} {spare : Nat → Bool} {held : Bool}
theorem trod_told {fuel : Nat} {cs : List Value} {x : DataW H × List MemPlace} (h : DataW.trod enc Tryz.prog W base spare held fuel 24 cs = some x) : ∃ a b c d : Int, cs = [.int .i64 a, .int .i64 b, .int .i64 c, .int .i64 d] ∧ In64 a ∧ In64 b ∧ In64 c ∧ In64 d := by
  obtain ⟨xs, m, hm, hx, hlen, _, _⟩ := DataW.trod_array Tryz.underlying24 h
  rw [cells_told] at hlen
  match cs, hlen with
  | [c0, c1, c2, c3], _ =>
    obtain ⟨y0, y1, y2, y3, n, hx, h0, h1, h2, h3⟩ := trod_array4 Tryz.underlying24 cells_int h
    obtain ⟨a, e0, rfl, wa⟩ := DataW.trod_int Tryz.underlying3 h0
    obtain ⟨b, e1, rfl, wb⟩ := DataW.trod_int Tryz.underlying3 h1
    obtain ⟨c, e2, rfl, wc⟩ := DataW.trod_int Tryz.underlying3 h2
    obtain ⟨d, e3, rfl, wd⟩ := DataW.trod_int Tryz.underlying3 h3
    simp at e0 e1 e2 e3
    subst e0 e1 e2 e3
    have ba := bounds_i64 wa
    have bb := bounds_i64 wb
    have bc := bounds_i64 wc
    have bd := bounds_i64 wd
    exact ⟨a, b, c, d, rfl, by unfold In64; omega, by unfold In64; omega, by unfold In64; omega, by unfold In64; omega⟩
theorem trod_ops {fuel : Nat} {cs : List Value} {x : DataW H × List MemPlace} (h : DataW.trod enc Tryz.prog W base spare held fuel 25 cs = some x) : ∃ (A : Option Addr) (n c : Nat) (l : List Opd), cs = [.slice A n c] ∧ Hid (l.length = n) ∧ RdO W A c l ∧ ∀ o ∈ l, Opr o := by
  obtain ⟨A, n, c, xs, e, hn, hr, hT⟩ := trod_rs (f := fx) (T := fun y : Opx => Opr y.o ∧ Ri W y.A y.c y.o.row) Tryz.underlying25 cells_O fx_len (by omega) (fun fuel cs x h => by
    obtain ⟨o, A, n, c, e, hr, hn, hri⟩ := trod_op h
    have hn' := hn.out
    subst hn'
    exact ⟨⟨o, A, c⟩, e, hr, hri⟩) h
  refine ⟨A, n, c, xs.map (·.o), e, hid (by rw [List.length_map]; exact hn.out), ⟨xs, rfl, hr, fun x hx => (hT x hx).2⟩, fun o ho => ?_⟩
  obtain ⟨y, hy, rfl⟩ := List.mem_map.1 ho
  exact (hT y hy).1
theorem trod_mail {fuel : Nat} {cs : List Value} {x : DataW H × List MemPlace} (h : DataW.trod enc Tryz.prog W base spare held fuel 27 cs = some x) : ∃ (m : Mld) (A : Option Addr) (n c : Nat), cs = [.int .u8 m.kd, .int .i64 m.us, .int .i64 m.se, .int .i64 m.co, .int .i64 m.fr, .int .i64 m.tt, .int .u8 m.ak, .int .i64 m.t0, .int .i64 m.t1, .int .i64 m.t2, .int .i64 m.t3, .slice A n c] ∧ Mlr m ∧ Hid (m.ops.length = n) ∧ RdO W A c m.ops := by
  obtain ⟨xs, fu, rfl, hx, hlen, hl, hf⟩ := DataW.trod_struct Tryz.underlying27 h
  have h0 := hf 0 _ rfl
  have h1 := hf 1 _ rfl
  have h2 := hf 2 _ rfl
  have h3 := hf 3 _ rfl
  have h4 := hf 4 _ rfl
  have h5 := hf 5 _ rfl
  have h6 := hf 6 _ rfl
  have h7 := hf 7 _ rfl
  have h8 := hf 8 _ rfl
  rw [cells_M] at hlen
  match xs, hl with
  | [y0, y1, y2, y3, y4, y5, y6, y7, y8], _ =>
    obtain ⟨kd, e0, rfl, w0⟩ := DataW.trod_int Tryz.underlying5 h0
    obtain ⟨us, e1, rfl, w1⟩ := DataW.trod_int Tryz.underlying3 h1
    obtain ⟨se, e2, rfl, w2⟩ := DataW.trod_int Tryz.underlying3 h2
    obtain ⟨co, e3, rfl, w3⟩ := DataW.trod_int Tryz.underlying23 h3
    obtain ⟨fr, e4, rfl, w4⟩ := DataW.trod_int Tryz.underlying3 h4
    obtain ⟨tt, e5, rfl, w5⟩ := DataW.trod_int Tryz.underlying3 h5
    obtain ⟨ak, e6, rfl, w6⟩ := DataW.trod_int Tryz.underlying5 h6
    obtain ⟨t0, t1, t2, t3, e7, i0, i1, i2, i3⟩ := trod_told h7
    obtain ⟨A, n, c', l, e8, hn, hr, hO⟩ := trod_ops h8
    replace e0 : (cs.drop 0).take 1 = [.int .u8 kd] := by rw [← cells_u8]; exact e0
    replace e1 : (cs.drop 1).take 1 = [.int .i64 us] := by rw [← cells_int]; exact e1
    replace e2 : (cs.drop 2).take 1 = [.int .i64 se] := by rw [← cells_int]; exact e2
    replace e3 : (cs.drop 3).take 1 = [.int .i64 co] := by rw [← cells_err]; exact e3
    replace e4 : (cs.drop 4).take 1 = [.int .i64 fr] := by rw [← cells_int]; exact e4
    replace e5 : (cs.drop 5).take 1 = [.int .i64 tt] := by rw [← cells_int]; exact e5
    replace e6 : (cs.drop 6).take 1 = [.int .u8 ak] := by rw [← cells_u8]; exact e6
    replace e7 : (cs.drop 7).take 4 = [.int .i64 t0, .int .i64 t1, .int .i64 t2, .int .i64 t3] := by rw [← cells_told]; exact e7
    replace e8 : (cs.drop 11).take 1 = [.slice A n c'] := by rw [← cells_lO]; exact e8
    match cs, hlen with
    | [c0, c1, c2, c3, c4, c5, c6, c7, c8, c9, c10, c11], _ =>
      simp only [List.drop_zero, List.drop_succ_cons, List.take_succ_cons, List.take_zero, List.cons.injEq, and_true] at e0 e1 e2 e3 e4 e5 e6 e7 e8
      obtain ⟨rfl, rfl, rfl, rfl⟩ := e7
      subst e0 e1 e2 e3 e4 e5 e6 e8
      have b1 := bounds_i64 w1
      have b2 := bounds_i64 w2
      have b3 := bounds_i64 w3
      have b4 := bounds_i64 w4
      have b5 := bounds_i64 w5
      have f : ∀ {x : Int}, -9223372036854775808 ≤ x ∧ x < 9223372036854775808 → In64 x := fun h => by unfold In64; omega
      exact ⟨⟨kd, us, se, co, fr, tt, ak, t0, t1, t2, t3, l⟩, A, n, c', rfl, ⟨(bounds_u8 w0).1, (bounds_u8 w0).2, by unfold In64; dsimp only; omega, by unfold In64; dsimp only; omega, by unfold In64; dsimp only; omega, by unfold In64; dsimp only; omega, by unfold In64; dsimp only; omega, (bounds_u8 w6).1, (bounds_u8 w6).2, i0, i1, i2, i3, hO⟩, hn, hr⟩
end
section
variable {H : Type} {enc : TypeId × Value → H} {W : World} {base b0 : Nat} {spare : Nat → Bool} {held : Bool} {v : Value} {d : DataW H} {p : List MemPlace} {r : Reach}
theorem open_mail (hv : Value.okWide Tryz.prog W r b0 27 v) (h : DataW.Trod enc Tryz.prog W base spare held 27 v d p) : ∃ (m : Mld) (A : Option Addr) (n c : Nat), v = .agg #[.int .u8 m.kd, .int .i64 m.us, .int .i64 m.se, .int .i64 m.co, .int .i64 m.fr, .int .i64 m.tt, .int .u8 m.ak, .int .i64 m.t0, .int .i64 m.t1, .int .i64 m.t2, .int .i64 m.t3, .slice A n c] ∧ Mlr m ∧ Hid (m.ops.length = n) ∧ RdO W A c m.ops := by
  obtain ⟨cs, rfl, hsz⟩ := okWide_struct Tryz.underlying27 hv
  obtain ⟨fuel, hf⟩ := h
  obtain ⟨m, A, n, c, e, hi⟩ := trod_mail hf
  refine ⟨m, A, n, c, ?_, hi⟩
  obtain ⟨cs⟩ := cs
  simp only [Value.cells] at e
  rw [e]
end
end Go.Proofs.YtdhfnacdjjdijaaGreat
