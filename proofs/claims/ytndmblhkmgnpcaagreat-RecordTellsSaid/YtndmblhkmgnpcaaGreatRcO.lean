/-
  How records and blocks that come in are opened.
-/
import Derived.Test.YtndmblhkmgnpcaaGreatRcW
import Derived.Test.YtndmblhkmgnpcaaGreatOO
namespace Go.Proofs.YtndmblhkmgnpcaaGreat
open Go.ChangeShapes Go.WideShapes Go.ChangeAt Go.RowKit Go.Joins
set_option linter.unusedVariables false
set_option maxRecDepth 100000

theorem cells_R : Tryz.prog.cellsOf 40 = 24 := by kernel_rfl
theorem cells_err : Tryz.prog.cellsOf 34 = 1 := by kernel_rfl
theorem cells_lu8 : Tryz.prog.cellsOf 51 = 1 := by kernel_rfl
theorem part_is {cs : List Value} {o m k : Nat} {l : List Value} (hk : m = k) (h : (cs.drop o).take m = l) : (cs.drop o).take k = l := by rw [← hk]; exact h
theorem drop_split (cs : List Value) (o k : Nat) : cs.drop o = (cs.drop o).take k ++ cs.drop (o + k) := by
  rw [← List.drop_drop, List.take_append_drop]
theorem trod_bytes {H : Type} {enc : TypeId × Value → H} {W : World} {base : Nat} {spare : Nat → Bool} {held : Bool} {fuel : Nat} {cs : List Value} {x : DataW H × List MemPlace}
    (hf : DataW.trod enc Tryz.prog W base spare held fuel 51 cs = some x) : ∃ (A : Option Addr) (n c : Nat) (l : List UInt8), cs = [.slice A n c] ∧ Hid (l.length = n) ∧ Rd W A c l := by
  have ht := Tryz.underlying51
  have he := Tryz.underlying5
  have hc := cells_u8
  rcases open_ints ht he hc hf with ⟨hcs, hx⟩ | ⟨a, len', cap', zs, hcs, _, hl, hm, hz, hx, hcell, hwz⟩
  · exact ⟨none, 0, 0, [], hcs, hid rfl, Rd.nil W⟩
  · have hzl : len' ≤ zs.length := by rw [hz]; split <;> omega
    have hlen : ((zs.take len').map fun n => UInt8.ofNat n.toNat).length = len' := by simp; omega
    refine ⟨some a, len', cap', (zs.take len').map fun n => UInt8.ofNat n.toNat, hcs, hid hlen, by omega, hm, fun hp => ?_⟩
    obtain ⟨ab, ao, spot⟩ := a
    have hspot : spot = none := by simpa [Addr.add] using World.cell?_spot (hcell 0 (by omega))
    subst hspot
    refine ⟨ab, ao, rfl, fun j hj => ?_⟩
    rw [hlen] at hj
    have hcj := hcell j (by omega)
    rw [Addr.add_lit] at hcj
    rw [hcj]
    have hb := range_u8 hwz j
    simp only [List.getElem_map, List.getElem_take]
    have e : zs.getD j 0 = zs[j]'(by omega) := by simp [List.getD, List.getElem?_eq_getElem (show j < zs.length by omega)]
    rw [List.getD_eq_getElem?_getD] at e
    rw [e] at hb
    rw [List.getD_eq_getElem?_getD, e]
    congr 2
    simp only [UInt8.toNat_ofNat']
    omega
end Go.Proofs.YtndmblhkmgnpcaaGreat

namespace Go.Proofs.YtndmblhkmgnpcaaGreat
open Go.RowKit Go.ChangeShapes Go.WideShapes Go.ChangeAt
set_option linter.unusedVariables false
section
variable {H : Type} {enc : TypeId × Value → H} {W : World} {base : Nat} {spare : Nat → Bool} {held : Bool}
theorem trod_rec {fuel : Nat} {cs : List Value} {x : DataW H × List MemPlace} (h : DataW.trod enc Tryz.prog W base spare held fuel 40 cs = some x) : ∃ (r : Rec) (A : Option Addr) (n c : Nat), cs = [.int .u8 r.kd, .int .i64 r.us, .int .u8 r.op.kd, .int .u8 r.op.l, .int .u32 r.op.c, .int .u8 r.op.k, .int .i64 r.op.s, .int .u8 r.op.fl, .int .u32 r.op.fc, .int .u8 r.op.fk, .int .i64 r.op.fn, .int .i64 r.op.fm, .int .u8 r.op.al, .int .u32 r.op.ac, .int .u8 r.op.ak, .int .i64 r.op.an, .int .u8 r.op.tl, .int .u32 r.op.tc, .slice A n c, .int .i64 r.co, .int .i64 r.gr.u, .int .u8 r.gr.l, .int .u32 r.gr.c, .bool r.gr.ok] ∧ Recr r ∧ Hid (r.op.row.length = n) ∧ Ri W A c r.op.row := by
  obtain ⟨xs, fu, rfl, hx, hlen, hl, hf⟩ := DataW.trod_struct Tryz.underlying40 h
  have h0 := hf 0 _ rfl
  have h1 := hf 1 _ rfl
  have h2 := hf 2 _ rfl
  have h3 := hf 3 _ rfl
  have h4 := hf 4 _ rfl
  rw [cells_R] at hlen
  match xs, hl with
  | [y0, y1, y2, y3, y4], _ =>
    obtain ⟨kd, e0, rfl, w0⟩ := DataW.trod_int Tryz.underlying5 h0
    obtain ⟨us, e1, rfl, w1⟩ := DataW.trod_int Tryz.underlying3 h1
    obtain ⟨o, A, n, c', e2, hor, hn, hri⟩ := trod_op h2
    obtain ⟨co, e3, rfl, w3⟩ := DataW.trod_int Tryz.underlying34 h3
    obtain ⟨g, e4, hg⟩ := trod_grant h4
    replace e0 : (cs.drop 0).take 1 = [.int .u8 kd] := part_is cells_u8 e0
    replace e1 : (cs.drop 1).take 1 = [.int .i64 us] := part_is cells_int e1
    replace e2 : (cs.drop 2).take 17 = [.int .u8 o.kd, .int .u8 o.l, .int .u32 o.c, .int .u8 o.k, .int .i64 o.s, .int .u8 o.fl, .int .u32 o.fc, .int .u8 o.fk, .int .i64 o.fn, .int .i64 o.fm, .int .u8 o.al, .int .u32 o.ac, .int .u8 o.ak, .int .i64 o.an, .int .u8 o.tl, .int .u32 o.tc, .slice A n c'] := part_is cells_O e2
    replace e3 : (cs.drop 19).take 1 = [.int .i64 co] := part_is cells_err e3
    replace e4 : (cs.drop 20).take 4 = [.int .i64 g.u, .int .u8 g.l, .int .u32 g.c, .bool g.ok] := part_is cells_G e4
    have hcs : cs = [.int .u8 kd] ++ ([.int .i64 us] ++ ([.int .u8 o.kd, .int .u8 o.l, .int .u32 o.c, .int .u8 o.k, .int .i64 o.s, .int .u8 o.fl, .int .u32 o.fc, .int .u8 o.fk, .int .i64 o.fn, .int .i64 o.fm, .int .u8 o.al, .int .u32 o.ac, .int .u8 o.ak, .int .i64 o.an, .int .u8 o.tl, .int .u32 o.tc, .slice A n c'] ++ ([.int .i64 co] ++ [.int .i64 g.u, .int .u8 g.l, .int .u32 g.c, .bool g.ok]))) := by
      have s0 := drop_split cs 0 1
      have s1 := drop_split cs 1 1
      have s2 := drop_split cs 2 17
      have s3 := drop_split cs 19 1
      have s4 := drop_split cs 20 4
      have s5 : cs.drop 24 = [] := List.drop_eq_nil_of_le (by omega)
      rw [e0] at s0
      rw [e1] at s1
      rw [e2] at s2
      rw [e3] at s3
      rw [e4] at s4
      rw [show 20 + 4 = 24 from rfl, s5, List.append_nil] at s4
      rw [show 19 + 1 = 20 from rfl, s4] at s3
      rw [show 2 + 17 = 19 from rfl, s3] at s2
      rw [show 1 + 1 = 2 from rfl, s2] at s1
      rw [show 0 + 1 = 1 from rfl, s1, List.drop_zero] at s0
      exact s0
    have b1 := bounds_i64 w1
    have b3 := bounds_i64 w3
    have f : ∀ {x : Int}, -9223372036854775808 ≤ x ∧ x < 9223372036854775808 → In64 x := fun h => by unfold In64; omega
    exact ⟨⟨kd, us, o, co, g⟩, A, n, c', hcs, ⟨(bounds_u8 w0).1, (bounds_u8 w0).2, by unfold In64; dsimp only; omega, hor, by unfold In64; dsimp only; omega, hg⟩, hn, hri⟩
end
section
variable {H : Type} {enc : TypeId × Value → H} {W : World} {base b0 : Nat} {spare : Nat → Bool} {held : Bool} {v : Value} {d : DataW H} {p : List MemPlace} {r : Reach}
set_option maxRecDepth 2000000 in
theorem open_rec (hv : Value.okWide Tryz.prog W r b0 40 v) (h : DataW.Trod enc Tryz.prog W base spare held 40 v d p) : ∃ (y : Rec) (A : Option Addr) (n c : Nat), v = .agg #[.int .u8 y.kd, .int .i64 y.us, .int .u8 y.op.kd, .int .u8 y.op.l, .int .u32 y.op.c, .int .u8 y.op.k, .int .i64 y.op.s, .int .u8 y.op.fl, .int .u32 y.op.fc, .int .u8 y.op.fk, .int .i64 y.op.fn, .int .i64 y.op.fm, .int .u8 y.op.al, .int .u32 y.op.ac, .int .u8 y.op.ak, .int .i64 y.op.an, .int .u8 y.op.tl, .int .u32 y.op.tc, .slice A n c, .int .i64 y.co, .int .i64 y.gr.u, .int .u8 y.gr.l, .int .u32 y.gr.c, .bool y.gr.ok] ∧ Recr y ∧ Hid (y.op.row.length = n) ∧ Ri W A c y.op.row := by
  obtain ⟨cs, rfl, hsz⟩ := okWide_struct Tryz.underlying40 hv
  obtain ⟨fuel, hf⟩ := h
  obtain ⟨m, A, n, c, e, hi⟩ := trod_rec hf
  refine ⟨m, A, n, c, ?_, hi⟩
  obtain ⟨cs⟩ := cs
  simp only [Value.cells] at e
  rw [e]
set_option maxRecDepth 2000000 in
theorem open_blks (hv : Value.okWide Tryz.prog W r b0 45 v) (h : DataW.Trod enc Tryz.prog W base spare held 45 v d p) : ∃ (A : Option Addr) (n c : Nat) (L : List (List UInt8)), v = .slice A n c ∧ Hid (L.length = n) ∧ RdB W A c L := by
  obtain ⟨a1, len, cap, rfl⟩ := okWide_slice Tryz.underlying45 hv
  obtain ⟨fuel, hf⟩ := h
  obtain ⟨A, n, c, xs, e, hn, hr, hT⟩ := trod_rs (f := fb) (T := fun y : Bx => Rd W y.A y.c y.l) Tryz.underlying45 cells_lu8 fb_len (by omega) (fun fuel cs x h => by
    obtain ⟨A, n, c, l, e, hn, hr⟩ := trod_bytes h
    have hn' := hn.out
    subst hn'
    exact ⟨⟨A, c, l⟩, e, hr⟩) hf
  simp [Value.cells] at e
  obtain ⟨rfl, rfl, rfl⟩ := e
  exact ⟨_, _, _, xs.map (·.l), rfl, hid (by rw [List.length_map]; exact hn.out), ⟨xs, rfl, hr, hT⟩⟩
end
end Go.Proofs.YtndmblhkmgnpcaaGreat
