/-
  Words for records: a record in a box (24 cells), loads and stores of it and of its parts; blocks: slices of bytes in a slice.
-/
import Derived.Test.YtndmblhkmgnpcaaGreatRcM
import Derived.Test.YtndmblhkmgnpcaaGreatSS
import Derived.Test.YtndmblhkmgnpcaaGreatOT
import Derived.Test.YtndmblhkmgnpcaaGreatOS
namespace Go.Proofs.YtndmblhkmgnpcaaGreat
open Go.RowKit Go.ChangeShapes Go.WideShapes Go.ChangeAt
set_option linter.unusedVariables false
set_option linter.unusedSimpArgs false

theorem range_keep {w w' : World} {b o : Nat} {cs : List Value} (h : w.rangeAt b o cs) (hb : Below w.heap.size w w') : w'.rangeAt b o cs := fun j v hv => Go.Proofs.YtndmblhkmgnpcaaGreat.keep hb (h j v hv)
theorem range_mid {W : World} {b o : Nat} (p q r : List Value) (h : W.rangeAt b o (p ++ (q ++ r))) : W.rangeAt b (o + p.length) q := fun j v hv => by
  have hj : j < q.length := (List.getElem?_eq_some_iff.1 hv).1
  have := h (p.length + j) v (by rw [List.getElem?_append_right (by omega), Nat.add_sub_cancel_left, List.getElem?_append_left hj]; exact hv)
  rwa [← Nat.add_assoc] at this
theorem range_head {W : World} {b o : Nat} (p q : List Value) (h : W.rangeAt b o (p ++ q)) : W.rangeAt b o p := fun j v hv => by
  have hj : j < p.length := (List.getElem?_eq_some_iff.1 hv).1
  exact h j v (by rw [List.getElem?_append_left hj]; exact hv)
theorem range_join {W : World} {b o : Nat} (p q : List Value) (h : W.rangeAt b o p) (h' : W.rangeAt b (o + p.length) q) : W.rangeAt b o (p ++ q) := fun j v hv => by
  rcases Nat.lt_or_ge j p.length with hj | hj
  · exact h j v (by rwa [List.getElem?_append_left hj] at hv)
  · rw [List.getElem?_append_right hj] at hv
    have := h' (j - p.length) v hv
    rwa [Nat.add_assoc, Nat.add_sub_cancel' hj] at this
/-- A part of a range, written anew. -/
theorem range_set {W : World} {b : Nat} (p q r q' : List Value) (h : W.rangeAt b 0 (p ++ (q ++ r))) (ht : W.there b p.length q'.length) (hq : q'.length = q.length) : (W.setCells b p.length q').rangeAt b 0 (p ++ (q' ++ r)) := by
  refine range_join _ _ (World.rangeAt_setCells_apart (range_head _ _ h) b _ _ (.inr (.inl (by omega)))) (range_join _ _ ?_ ?_)
  · rw [Nat.zero_add]; exact World.rangeAt_setCells_same W b _ q' ht
  · refine World.rangeAt_setCells_apart ?_ b _ _ (.inr (.inr (by omega)))
    have := range_mid (p ++ q) r [] (by rw [List.append_nil, List.append_assoc]; exact h)
    rw [List.length_append, ← Nat.add_assoc] at this
    rwa [hq]
theorem range_new (w : World) (cs : Array Value) (t : TypeId) : (w.alloc (.cells cs t)).rangeAt w.heap.size 0 cs.toList := fun j v hv => by
  rw [Nat.zero_add, cell_of_row _ _ _ cs t (0, 0) (heap_alloc_last w _)]
  simpa using hv
theorem there_part {W : World} {b m : Nat} (h : W.there b 0 m) (o k : Nat) (hk : o + k ≤ m) : W.there b o k := fun j hj => by
  have := h (o + j) (by omega)
  rwa [Nat.zero_add] at this

/-! ### A record in a box -/
def BoxR (W : World) (b : Nat) (r : Rec) (A : Option Addr) (n c : Nat) : Prop := W.rangeAt b 0 ([.int .u8 r.kd, .int .i64 r.us, .int .u8 r.op.kd, .int .u8 r.op.l, .int .u32 r.op.c, .int .u8 r.op.k, .int .i64 r.op.s, .int .u8 r.op.fl, .int .u32 r.op.fc, .int .u8 r.op.fk, .int .i64 r.op.fn, .int .i64 r.op.fm, .int .u8 r.op.al, .int .u32 r.op.ac, .int .u8 r.op.ak, .int .i64 r.op.an, .int .u8 r.op.tl, .int .u32 r.op.tc, .slice A n c, .int .i64 r.co, .int .i64 r.gr.u, .int .u8 r.gr.l, .int .u32 r.gr.c, .bool r.gr.ok])
theorem BoxR.keep {W W' : World} {b : Nat} {r : Rec} {A : Option Addr} {n c : Nat} (h : BoxR W b r A n c) (hb : Below W.heap.size W W') : BoxR W' b r A n c := range_keep h hb
theorem boxR_new (w : World) (r : Rec) (A : Option Addr) (n c : Nat) (t : TypeId) : BoxR (w.alloc (.cells (#[.int .u8 r.kd, .int .i64 r.us, .int .u8 r.op.kd, .int .u8 r.op.l, .int .u32 r.op.c, .int .u8 r.op.k, .int .i64 r.op.s, .int .u8 r.op.fl, .int .u32 r.op.fc, .int .u8 r.op.fk, .int .i64 r.op.fn, .int .i64 r.op.fm, .int .u8 r.op.al, .int .u32 r.op.ac, .int .u8 r.op.ak, .int .i64 r.op.an, .int .u8 r.op.tl, .int .u32 r.op.tc, .slice A n c, .int .i64 r.co, .int .i64 r.gr.u, .int .u8 r.gr.l, .int .u32 r.gr.c, .bool r.gr.ok]) t)) w.heap.size r A n c := range_new w _ t
theorem BoxR.k {W : World} {b : Nat} {r : Rec} {A : Option Addr} {n c : Nat} (h : BoxR W b r A n c) : W.cell? ⟨b, 0, none⟩ = some (.int .u8 r.kd) := h 0 _ rfl
theorem BoxR.u {W : World} {b : Nat} {r : Rec} {A : Option Addr} {n c : Nat} (h : BoxR W b r A n c) : W.cell? ⟨b, 1, none⟩ = some (.int .i64 r.us) := h 1 _ rfl
theorem BoxR.co {W : World} {b : Nat} {r : Rec} {A : Option Addr} {n c : Nat} (h : BoxR W b r A n c) : W.cell? ⟨b, 19, none⟩ = some (.int .i64 r.co) := h 19 _ rfl
theorem BoxR.sl {W : World} {b : Nat} {r : Rec} {A : Option Addr} {n c : Nat} (h : BoxR W b r A n c) : W.cell? ⟨b, 18, none⟩ = some (.slice A n c) := h 18 _ rfl
theorem BoxR.o {W : World} {b : Nat} {r : Rec} {A : Option Addr} {n c : Nat} (h : BoxR W b r A n c) : W.rangeAt b 2 ([.int .u8 (r.op).kd, .int .u8 (r.op).l, .int .u32 (r.op).c, .int .u8 (r.op).k, .int .i64 (r.op).s, .int .u8 (r.op).fl, .int .u32 (r.op).fc, .int .u8 (r.op).fk, .int .i64 (r.op).fn, .int .i64 (r.op).fm, .int .u8 (r.op).al, .int .u32 (r.op).ac, .int .u8 (r.op).ak, .int .i64 (r.op).an, .int .u8 (r.op).tl, .int .u32 (r.op).tc, .slice A n c]) :=
  range_mid [.int .u8 r.kd, .int .i64 r.us] ([.int .u8 (r.op).kd, .int .u8 (r.op).l, .int .u32 (r.op).c, .int .u8 (r.op).k, .int .i64 (r.op).s, .int .u8 (r.op).fl, .int .u32 (r.op).fc, .int .u8 (r.op).fk, .int .i64 (r.op).fn, .int .i64 (r.op).fm, .int .u8 (r.op).al, .int .u32 (r.op).ac, .int .u8 (r.op).ak, .int .i64 (r.op).an, .int .u8 (r.op).tl, .int .u32 (r.op).tc, .slice A n c]) [.int .i64 r.co, .int .i64 r.gr.u, .int .u8 r.gr.l, .int .u32 r.gr.c, .bool r.gr.ok] h
theorem BoxR.h {W : World} {b : Nat} {r : Rec} {A : Option Addr} {n c : Nat} (h : BoxR W b r A n c) : W.rangeAt b 3 [.int .u8 r.op.l, .int .u32 r.op.c, .int .u8 r.op.k] :=
  fun j v hv => by
    match j, hv with
    | 0, hv => cases hv; exact h 3 _ rfl
    | 1, hv => cases hv; exact h 4 _ rfl
    | 2, hv => cases hv; exact h 5 _ rfl
    | j + 3, hv => simp at hv
theorem BoxR.g {W : World} {b : Nat} {r : Rec} {A : Option Addr} {n c : Nat} (h : BoxR W b r A n c) : W.rangeAt b 20 [.int .i64 r.gr.u, .int .u8 r.gr.l, .int .u32 r.gr.c, .bool r.gr.ok] :=
  fun j v hv => by
    match j, hv with
    | 0, hv => cases hv; exact h 20 _ rfl
    | 1, hv => cases hv; exact h 21 _ rfl
    | 2, hv => cases hv; exact h 22 _ rfl
    | 3, hv => cases hv; exact h 23 _ rfl
    | j + 4, hv => simp at hv
theorem BoxR.other {W W' : World} {b : Nat} (hh : ∀ k, k ≠ b → W'.heap[k]? = W.heap[k]?) {g : Nat} (hg : g ≠ b) {r : Rec} {A : Option Addr} {n c : Nat} (h : BoxR W g r A n c) : BoxR W' g r A n c :=
  fun j v hv => cell_other hh (p := ⟨g, 0 + j, none⟩) hg (h j v hv)
theorem BoxR.past {W : World} {b : Nat} {r : Rec} {A : Option Addr} {n c : Nat} (h : BoxR W b r A n c) : ∀ w', (∃ x : Past W, w' = x.1) → BoxR w' b r A n c := fun w' ⟨x, hx⟩ => by
  rw [hx]; exact h.keep x.2
def ThereR (W : World) (b : Nat) : Prop := W.there b 0 24
theorem ThereR.keep {W W' : World} {b : Nat} (h : ThereR W b) (hb : Below W.heap.size W W') : ThereR W' b := there_keep h hb
theorem thereR_new (w : World) (cs : Array Value) (hc : cs.size = 24) (t : TypeId) : ThereR (w.alloc (.cells cs t)) w.heap.size := there_new w cs t 24 hc
theorem ThereR.at_ {W : World} {b : Nat} (h : ThereR W b) (j : Nat) (hj : j < 24) : W.frozen? ⟨b, j, none⟩ = false := by
  have := (h j hj).2
  rwa [Nat.zero_add] at this
theorem ThereR.lt {W : World} {b : Nat} (h : ThereR W b) : b < W.heap.size := by
  obtain ⟨u, hu⟩ := Option.isSome_iff_exists.1 (h 0 (by omega)).1
  exact World.block_lt_of_cell? W _ hu
theorem ThereR.other {W W' : World} {b : Nat} (hh : ∀ k, k ≠ b → W'.heap[k]? = W.heap[k]?) {g : Nat} (hg : g ≠ b) (h : ThereR W g) : ThereR W' g := there_other h hh hg
theorem ThereR.sets {W : World} {b : Nat} (h : ThereR W b) (g off : Nat) (vs : List Value) : ThereR (W.setCells g off vs) b := World.there_setCells h g off vs
theorem ThereR.setc {W : World} {b : Nat} (h : ThereR W b) (g i : Nat) (v : Value) : ThereR (W.setCell ⟨g, i, none⟩ v) b := World.there_setCells h g i [v]
/-- Its parts, written. -/
theorem BoxR.setOp {W : World} {b : Nat} {r : Rec} {A : Option Addr} {n c : Nat} (h : BoxR W b r A n c) (ht : ThereR W b) (o : Opd) (A' : Option Addr) (n' c' : Nat) : BoxR (W.setCells b 2 ([.int .u8 o.kd, .int .u8 o.l, .int .u32 o.c, .int .u8 o.k, .int .i64 o.s, .int .u8 o.fl, .int .u32 o.fc, .int .u8 o.fk, .int .i64 o.fn, .int .i64 o.fm, .int .u8 o.al, .int .u32 o.ac, .int .u8 o.ak, .int .i64 o.an, .int .u8 o.tl, .int .u32 o.tc, .slice A' n' c'])) b { r with op := o } A' n' c' :=
  range_set [.int .u8 r.kd, .int .i64 r.us] ([.int .u8 (r.op).kd, .int .u8 (r.op).l, .int .u32 (r.op).c, .int .u8 (r.op).k, .int .i64 (r.op).s, .int .u8 (r.op).fl, .int .u32 (r.op).fc, .int .u8 (r.op).fk, .int .i64 (r.op).fn, .int .i64 (r.op).fm, .int .u8 (r.op).al, .int .u32 (r.op).ac, .int .u8 (r.op).ak, .int .i64 (r.op).an, .int .u8 (r.op).tl, .int .u32 (r.op).tc, .slice A n c]) [.int .i64 r.co, .int .i64 r.gr.u, .int .u8 r.gr.l, .int .u32 r.gr.c, .bool r.gr.ok] ([.int .u8 o.kd, .int .u8 o.l, .int .u32 o.c, .int .u8 o.k, .int .i64 o.s, .int .u8 o.fl, .int .u32 o.fc, .int .u8 o.fk, .int .i64 o.fn, .int .i64 o.fm, .int .u8 o.al, .int .u32 o.ac, .int .u8 o.ak, .int .i64 o.an, .int .u8 o.tl, .int .u32 o.tc, .slice A' n' c']) h (there_part ht 2 17 (by omega)) rfl
theorem BoxR.setGr {W : World} {b : Nat} {r : Rec} {A : Option Addr} {n c : Nat} (h : BoxR W b r A n c) (ht : ThereR W b) (g : Gr) : BoxR (W.setCells b 20 [.int .i64 g.u, .int .u8 g.l, .int .u32 g.c, .bool g.ok]) b { r with gr := g } A n c :=
  range_set (([.int .u8 r.kd, .int .i64 r.us, .int .u8 r.op.kd, .int .u8 r.op.l, .int .u32 r.op.c, .int .u8 r.op.k, .int .i64 r.op.s, .int .u8 r.op.fl, .int .u32 r.op.fc, .int .u8 r.op.fk, .int .i64 r.op.fn, .int .i64 r.op.fm, .int .u8 r.op.al, .int .u32 r.op.ac, .int .u8 r.op.ak, .int .i64 r.op.an, .int .u8 r.op.tl, .int .u32 r.op.tc, .slice A n c, .int .i64 r.co, .int .i64 r.gr.u, .int .u8 r.gr.l, .int .u32 r.gr.c, .bool r.gr.ok] : List Value).take 20) [.int .i64 r.gr.u, .int .u8 r.gr.l, .int .u32 r.gr.c, .bool r.gr.ok] [] [.int .i64 g.u, .int .u8 g.l, .int .u32 g.c, .bool g.ok] h (there_part ht 20 4 (by omega)) rfl
theorem BoxR.setBy {W : World} {b : Nat} {r : Rec} {A : Option Addr} {n c : Nat} (h : BoxR W b r A n c) (ht : ThereR W b) (x y z : Int) : BoxR (W.setCells b 3 [.int .u8 x, .int .u32 y, .int .u8 z]) b { r with op := { r.op with l := x, c := y, k := z } } A n c :=
  range_set (([.int .u8 r.kd, .int .i64 r.us, .int .u8 r.op.kd, .int .u8 r.op.l, .int .u32 r.op.c, .int .u8 r.op.k, .int .i64 r.op.s, .int .u8 r.op.fl, .int .u32 r.op.fc, .int .u8 r.op.fk, .int .i64 r.op.fn, .int .i64 r.op.fm, .int .u8 r.op.al, .int .u32 r.op.ac, .int .u8 r.op.ak, .int .i64 r.op.an, .int .u8 r.op.tl, .int .u32 r.op.tc, .slice A n c, .int .i64 r.co, .int .i64 r.gr.u, .int .u8 r.gr.l, .int .u32 r.gr.c, .bool r.gr.ok] : List Value).take 3) [.int .u8 r.op.l, .int .u32 r.op.c, .int .u8 r.op.k] (([.int .u8 r.kd, .int .i64 r.us, .int .u8 r.op.kd, .int .u8 r.op.l, .int .u32 r.op.c, .int .u8 r.op.k, .int .i64 r.op.s, .int .u8 r.op.fl, .int .u32 r.op.fc, .int .u8 r.op.fk, .int .i64 r.op.fn, .int .i64 r.op.fm, .int .u8 r.op.al, .int .u32 r.op.ac, .int .u8 r.op.ak, .int .i64 r.op.an, .int .u8 r.op.tl, .int .u32 r.op.tc, .slice A n c, .int .i64 r.co, .int .i64 r.gr.u, .int .u8 r.gr.l, .int .u32 r.gr.c, .bool r.gr.ok] : List Value).drop 6) [.int .u8 x, .int .u32 y, .int .u8 z] h (there_part ht 3 3 (by omega)) rfl
theorem BoxR.setK {W : World} {b : Nat} {r : Rec} {A : Option Addr} {n c : Nat} (h : BoxR W b r A n c) (ht : ThereR W b) (x : Int) : BoxR (W.setCell ⟨b, 0, none⟩ (.int .u8 x)) b { r with kd := x } A n c :=
  range_set [] [.int .u8 r.kd] (([.int .u8 r.kd, .int .i64 r.us, .int .u8 r.op.kd, .int .u8 r.op.l, .int .u32 r.op.c, .int .u8 r.op.k, .int .i64 r.op.s, .int .u8 r.op.fl, .int .u32 r.op.fc, .int .u8 r.op.fk, .int .i64 r.op.fn, .int .i64 r.op.fm, .int .u8 r.op.al, .int .u32 r.op.ac, .int .u8 r.op.ak, .int .i64 r.op.an, .int .u8 r.op.tl, .int .u32 r.op.tc, .slice A n c, .int .i64 r.co, .int .i64 r.gr.u, .int .u8 r.gr.l, .int .u32 r.gr.c, .bool r.gr.ok] : List Value).drop 1) [.int .u8 x] h (there_part ht 0 1 (by omega)) rfl
theorem BoxR.setU {W : World} {b : Nat} {r : Rec} {A : Option Addr} {n c : Nat} (h : BoxR W b r A n c) (ht : ThereR W b) (x : Int) : BoxR (W.setCell ⟨b, 1, none⟩ (.int .i64 x)) b { r with us := x } A n c :=
  range_set [.int .u8 r.kd] [.int .i64 r.us] (([.int .u8 r.kd, .int .i64 r.us, .int .u8 r.op.kd, .int .u8 r.op.l, .int .u32 r.op.c, .int .u8 r.op.k, .int .i64 r.op.s, .int .u8 r.op.fl, .int .u32 r.op.fc, .int .u8 r.op.fk, .int .i64 r.op.fn, .int .i64 r.op.fm, .int .u8 r.op.al, .int .u32 r.op.ac, .int .u8 r.op.ak, .int .i64 r.op.an, .int .u8 r.op.tl, .int .u32 r.op.tc, .slice A n c, .int .i64 r.co, .int .i64 r.gr.u, .int .u8 r.gr.l, .int .u32 r.gr.c, .bool r.gr.ok] : List Value).drop 2) [.int .i64 x] h (there_part ht 1 1 (by omega)) rfl
theorem BoxR.setCo {W : World} {b : Nat} {r : Rec} {A : Option Addr} {n c : Nat} (h : BoxR W b r A n c) (ht : ThereR W b) (x : Int) : BoxR (W.setCell ⟨b, 19, none⟩ (.int .i64 x)) b { r with co := x } A n c :=
  range_set (([.int .u8 r.kd, .int .i64 r.us, .int .u8 r.op.kd, .int .u8 r.op.l, .int .u32 r.op.c, .int .u8 r.op.k, .int .i64 r.op.s, .int .u8 r.op.fl, .int .u32 r.op.fc, .int .u8 r.op.fk, .int .i64 r.op.fn, .int .i64 r.op.fm, .int .u8 r.op.al, .int .u32 r.op.ac, .int .u8 r.op.ak, .int .i64 r.op.an, .int .u8 r.op.tl, .int .u32 r.op.tc, .slice A n c, .int .i64 r.co, .int .i64 r.gr.u, .int .u8 r.gr.l, .int .u32 r.gr.c, .bool r.gr.ok] : List Value).take 19) [.int .i64 r.co] (([.int .u8 r.kd, .int .i64 r.us, .int .u8 r.op.kd, .int .u8 r.op.l, .int .u32 r.op.c, .int .u8 r.op.k, .int .i64 r.op.s, .int .u8 r.op.fl, .int .u32 r.op.fc, .int .u8 r.op.fk, .int .i64 r.op.fn, .int .i64 r.op.fm, .int .u8 r.op.al, .int .u32 r.op.ac, .int .u8 r.op.ak, .int .i64 r.op.an, .int .u8 r.op.tl, .int .u32 r.op.tc, .slice A n c, .int .i64 r.co, .int .i64 r.gr.u, .int .u8 r.gr.l, .int .u32 r.gr.c, .bool r.gr.ok] : List Value).drop 20) [.int .i64 x] h (there_part ht 19 1 (by omega)) rfl

theorem info_R : (Tryz.prog.info? 40).map (·.size) = some 24 := by kernel_rfl
theorem info_Gs : (Tryz.prog.info? 38).map (·.size) = some 4 := by kernel_rfl
theorem info_Hs : (Tryz.prog.info? 26).map (·.size) = some 3 := by kernel_rfl
section
variable {ops : Array Oper} {rest : List Oper} {op : Oper} {a : Act} {W : World} {Q : Exit → Act → World → Prop} {S : World → Prop} {C : World → Prop} {Qa : Act → Prop}
theorem wpList_load_r (hwt : Region.wanted op (yielded ops a.tmps) = true) (x : Operand) (ho : op.op = .load 40 x)
    (b : Nat) (hx : a.eval x = .pointer (some ⟨b, 0, none⟩)) {r : Rec} {A : Option Addr} {n c : Nat} (hB : BoxR W b r A n c) (h : wpList Tryz.prog ops Q rest (a.put op.dst (.agg #[.int .u8 r.kd, .int .i64 r.us, .int .u8 r.op.kd, .int .u8 r.op.l, .int .u32 r.op.c, .int .u8 r.op.k, .int .i64 r.op.s, .int .u8 r.op.fl, .int .u32 r.op.fc, .int .u8 r.op.fk, .int .i64 r.op.fn, .int .i64 r.op.fm, .int .u8 r.op.al, .int .u32 r.op.ac, .int .u8 r.op.ak, .int .i64 r.op.an, .int .u8 r.op.tl, .int .u32 r.op.tc, .slice A n c, .int .i64 r.co, .int .i64 r.gr.u, .int .u8 r.gr.l, .int .u32 r.gr.c, .bool r.gr.ok])) W) : wpList Tryz.prog ops Q (op :: rest) a W := by
  refine wpList_step fun K hK => ?_
  rw [if_pos hwt]
  exact wp_load_mid 40 x ho b 0 hx _ _ hB Tryz.underlying40 rfl info_R (hK _ _ h)
theorem yields_load_r (hw : Region.wanted op (yielded ops a.tmps) = true) (x : Operand) (ho : op.op = .load 40 x)
    (b : Nat) (hx : a.eval x = .pointer (some ⟨b, 0, none⟩)) {r : Rec} {A : Option Addr} {n c : Nat} (hS : ∀ w, S w → BoxR w b r A n c) : YieldsIf Tryz.prog ops S op (.agg #[.int .u8 r.kd, .int .i64 r.us, .int .u8 r.op.kd, .int .u8 r.op.l, .int .u32 r.op.c, .int .u8 r.op.k, .int .i64 r.op.s, .int .u8 r.op.fl, .int .u32 r.op.fc, .int .u8 r.op.fk, .int .i64 r.op.fn, .int .i64 r.op.fm, .int .u8 r.op.al, .int .u32 r.op.ac, .int .u8 r.op.ak, .int .i64 r.op.an, .int .u8 r.op.tl, .int .u32 r.op.tc, .slice A n c, .int .i64 r.co, .int .i64 r.gr.u, .int .u8 r.gr.l, .int .u32 r.gr.c, .bool r.gr.ok]) a :=
  yieldsIf_load_mid hw 40 x ho b 0 hx _ _ (fun w h => hS w h) Tryz.underlying40 rfl info_R
theorem quiet_load_r (hwt : Region.wanted op (yielded ops a.tmps) = true) (x : Operand) (ho : op.op = .load 40 x)
    (b : Nat) (hx : a.eval x = .pointer (some ⟨b, 0, none⟩)) {r : Rec} {A : Option Addr} {n c : Nat} (hB : ∀ w, C w → BoxR w b r A n c) (h : wpQuiet Tryz.prog ops C Qa rest (a.put op.dst (.agg #[.int .u8 r.kd, .int .i64 r.us, .int .u8 r.op.kd, .int .u8 r.op.l, .int .u32 r.op.c, .int .u8 r.op.k, .int .i64 r.op.s, .int .u8 r.op.fl, .int .u32 r.op.fc, .int .u8 r.op.fk, .int .i64 r.op.fn, .int .i64 r.op.fm, .int .u8 r.op.al, .int .u32 r.op.ac, .int .u8 r.op.ak, .int .i64 r.op.an, .int .u8 r.op.tl, .int .u32 r.op.tc, .slice A n c, .int .i64 r.co, .int .i64 r.gr.u, .int .u8 r.gr.l, .int .u32 r.gr.c, .bool r.gr.ok]))) : wpQuiet Tryz.prog ops C Qa (op :: rest) a := by
  rw [wpQuiet, if_pos hwt]
  refine ⟨_, fun w hw => ?_, h⟩
  unfold Oper.quietAt
  rcases yields_load_r (ops := ops) (S := C) hwt x ho b hx hB with ⟨_, h⟩ | ⟨h, _⟩
  · rw [h w hw]; exact ⟨rfl, rfl⟩
  · rw [h] at hwt; cases hwt
/-- The operation in a record's box. -/
theorem wpList_load_ro (hwt : Region.wanted op (yielded ops a.tmps) = true) (x : Operand) (ho : op.op = .load 33 x)
    (b : Nat) (hx : a.eval x = .pointer (some ⟨b, 2, none⟩)) {r : Rec} {A : Option Addr} {n c : Nat} (hB : BoxR W b r A n c) (h : wpList Tryz.prog ops Q rest (a.put op.dst (.agg #[.int .u8 (r.op).kd, .int .u8 (r.op).l, .int .u32 (r.op).c, .int .u8 (r.op).k, .int .i64 (r.op).s, .int .u8 (r.op).fl, .int .u32 (r.op).fc, .int .u8 (r.op).fk, .int .i64 (r.op).fn, .int .i64 (r.op).fm, .int .u8 (r.op).al, .int .u32 (r.op).ac, .int .u8 (r.op).ak, .int .i64 (r.op).an, .int .u8 (r.op).tl, .int .u32 (r.op).tc, .slice A n c])) W) : wpList Tryz.prog ops Q (op :: rest) a W := by
  refine wpList_step fun K hK => ?_
  rw [if_pos hwt]
  exact wp_load_mid 33 x ho b 2 hx _ _ hB.o Tryz.underlying33 rfl info_O (hK _ _ h)
theorem quiet_load_ro (hwt : Region.wanted op (yielded ops a.tmps) = true) (x : Operand) (ho : op.op = .load 33 x)
    (b : Nat) (hx : a.eval x = .pointer (some ⟨b, 2, none⟩)) {r : Rec} {A : Option Addr} {n c : Nat} (hB : ∀ w, C w → BoxR w b r A n c) (h : wpQuiet Tryz.prog ops C Qa rest (a.put op.dst (.agg #[.int .u8 (r.op).kd, .int .u8 (r.op).l, .int .u32 (r.op).c, .int .u8 (r.op).k, .int .i64 (r.op).s, .int .u8 (r.op).fl, .int .u32 (r.op).fc, .int .u8 (r.op).fk, .int .i64 (r.op).fn, .int .i64 (r.op).fm, .int .u8 (r.op).al, .int .u32 (r.op).ac, .int .u8 (r.op).ak, .int .i64 (r.op).an, .int .u8 (r.op).tl, .int .u32 (r.op).tc, .slice A n c]))) : wpQuiet Tryz.prog ops C Qa (op :: rest) a := by
  rw [wpQuiet, if_pos hwt]
  refine ⟨_, fun w hw => ?_, h⟩
  unfold Oper.quietAt
  rcases yieldsIf_load_mid (P := Tryz.prog) (ops := ops) (S := C) hwt 33 x ho b 2 hx _ _ (fun w h => (hB w h).o) Tryz.underlying33 rfl info_O with ⟨_, h⟩ | ⟨h, _⟩
  · rw [h w hw]; exact ⟨rfl, rfl⟩
  · rw [h] at hwt; cases hwt
theorem wpList_load_rg (hwt : Region.wanted op (yielded ops a.tmps) = true) (x : Operand) (ho : op.op = .load 38 x)
    (b : Nat) (hx : a.eval x = .pointer (some ⟨b, 20, none⟩)) {r : Rec} {A : Option Addr} {n c : Nat} (hB : BoxR W b r A n c) (h : wpList Tryz.prog ops Q rest (a.put op.dst (.agg #[.int .i64 (r.gr.u), .int .u8 (r.gr.l), .int .u32 (r.gr.c), .bool (r.gr.ok)])) W) : wpList Tryz.prog ops Q (op :: rest) a W := by
  refine wpList_step fun K hK => ?_
  rw [if_pos hwt]
  exact wp_load_mid 38 x ho b 20 hx _ _ hB.g Tryz.underlying38 rfl info_Gs (hK _ _ h)
theorem quiet_load_rg (hwt : Region.wanted op (yielded ops a.tmps) = true) (x : Operand) (ho : op.op = .load 38 x)
    (b : Nat) (hx : a.eval x = .pointer (some ⟨b, 20, none⟩)) {r : Rec} {A : Option Addr} {n c : Nat} (hB : ∀ w, C w → BoxR w b r A n c) (h : wpQuiet Tryz.prog ops C Qa rest (a.put op.dst (.agg #[.int .i64 (r.gr.u), .int .u8 (r.gr.l), .int .u32 (r.gr.c), .bool (r.gr.ok)]))) : wpQuiet Tryz.prog ops C Qa (op :: rest) a := by
  rw [wpQuiet, if_pos hwt]
  refine ⟨_, fun w hw => ?_, h⟩
  unfold Oper.quietAt
  rcases yieldsIf_load_mid (P := Tryz.prog) (ops := ops) (S := C) hwt 38 x ho b 20 hx _ _ (fun w h => (hB w h).g) Tryz.underlying38 rfl info_Gs with ⟨_, h⟩ | ⟨h, _⟩
  · rw [h w hw]; exact ⟨rfl, rfl⟩
  · rw [h] at hwt; cases hwt
theorem wpList_load_rh (hwt : Region.wanted op (yielded ops a.tmps) = true) (x : Operand) (ho : op.op = .load 26 x)
    (b : Nat) (hx : a.eval x = .pointer (some ⟨b, 3, none⟩)) {r : Rec} {A : Option Addr} {n c : Nat} (hB : BoxR W b r A n c) (h : wpList Tryz.prog ops Q rest (a.put op.dst (.agg #[.int .u8 (r.op.l), .int .u32 (r.op.c), .int .u8 (r.op.k)])) W) : wpList Tryz.prog ops Q (op :: rest) a W := by
  refine wpList_step fun K hK => ?_
  rw [if_pos hwt]
  exact wp_load_mid 26 x ho b 3 hx _ _ hB.h Tryz.underlying26 rfl info_Hs (hK _ _ h)
theorem wpList_store_r (hgd : op.guard = none) (x y : Operand) (ho : op.op = .store 40 x y)
    (b : Nat) (hx : a.eval x = .pointer (some ⟨b, 0, none⟩)) (r : Rec) (A : Option Addr) (n c : Nat) (hy : a.eval y = .agg #[.int .u8 r.kd, .int .i64 r.us, .int .u8 r.op.kd, .int .u8 r.op.l, .int .u32 r.op.c, .int .u8 r.op.k, .int .i64 r.op.s, .int .u8 r.op.fl, .int .u32 r.op.fc, .int .u8 r.op.fk, .int .i64 r.op.fn, .int .i64 r.op.fm, .int .u8 r.op.al, .int .u32 r.op.ac, .int .u8 r.op.ak, .int .i64 r.op.an, .int .u8 r.op.tl, .int .u32 r.op.tc, .slice A n c, .int .i64 r.co, .int .i64 r.gr.u, .int .u8 r.gr.l, .int .u32 r.gr.c, .bool r.gr.ok]) (ht : ThereR W b) (base : Nat) (hb : base ≤ b)
    (h : ∀ W', BoxR W' b r A n c → ThereR W' b → Below base W W' → (∀ k, k ≠ b → W'.heap[k]? = W.heap[k]?) → W'.heap.size = W.heap.size → wpList Tryz.prog ops Q rest (a.put op.dst undef) W') : wpList Tryz.prog ops Q (op :: rest) a W := by
  refine wpList_store_mid hgd 40 x y ho b 0 _ hx hy ht info_R (by simp [Value.oneCell']) ?_
  exact h _ (World.rangeAt_setCells_same W b 0 _ ht) (World.there_setCells ht b 0 _) (below_setCells b base hb _ _ _) (fun k hk => heap_setCells b _ _ _ k hk) (size_setCells b _ _ _)
theorem wpList_store_ro (hgd : op.guard = none) (x y : Operand) (ho : op.op = .store 33 x y)
    (b : Nat) (hx : a.eval x = .pointer (some ⟨b, 2, none⟩)) (o : Opd) (A' : Option Addr) (n' c' : Nat) (hy : a.eval y = .agg #[.int .u8 o.kd, .int .u8 o.l, .int .u32 o.c, .int .u8 o.k, .int .i64 o.s, .int .u8 o.fl, .int .u32 o.fc, .int .u8 o.fk, .int .i64 o.fn, .int .i64 o.fm, .int .u8 o.al, .int .u32 o.ac, .int .u8 o.ak, .int .i64 o.an, .int .u8 o.tl, .int .u32 o.tc, .slice A' n' c']) {r : Rec} {A : Option Addr} {n c : Nat} (hB : BoxR W b r A n c) (ht : ThereR W b) (base : Nat) (hb : base ≤ b)
    (h : ∀ W', BoxR W' b { r with op := o } A' n' c' → ThereR W' b → Below base W W' → (∀ k, k ≠ b → W'.heap[k]? = W.heap[k]?) → W'.heap.size = W.heap.size → wpList Tryz.prog ops Q rest (a.put op.dst undef) W') : wpList Tryz.prog ops Q (op :: rest) a W := by
  refine wpList_store_mid hgd 33 x y ho b 2 _ hx hy (there_part ht 2 17 (by omega)) info_O (by simp [Value.oneCell']) ?_
  exact h _ (hB.setOp ht o A' n' c') (World.there_setCells ht b 2 _) (below_setCells b base hb _ _ _) (fun k hk => heap_setCells b _ _ _ k hk) (size_setCells b _ _ _)
theorem wpList_store_rg (hgd : op.guard = none) (x y : Operand) (ho : op.op = .store 38 x y)
    (b : Nat) (hx : a.eval x = .pointer (some ⟨b, 20, none⟩)) (g : Gr) (hy : a.eval y = .agg #[.int .i64 (g.u), .int .u8 (g.l), .int .u32 (g.c), .bool (g.ok)]) {r : Rec} {A : Option Addr} {n c : Nat} (hB : BoxR W b r A n c) (ht : ThereR W b) (base : Nat) (hb : base ≤ b)
    (h : ∀ W', BoxR W' b { r with gr := g } A n c → ThereR W' b → Below base W W' → (∀ k, k ≠ b → W'.heap[k]? = W.heap[k]?) → W'.heap.size = W.heap.size → wpList Tryz.prog ops Q rest (a.put op.dst undef) W') : wpList Tryz.prog ops Q (op :: rest) a W := by
  refine wpList_store_mid hgd 38 x y ho b 20 _ hx hy (there_part ht 20 4 (by omega)) info_Gs (by simp [Value.oneCell']) ?_
  exact h _ (hB.setGr ht g) (World.there_setCells ht b 20 _) (below_setCells b base hb _ _ _) (fun k hk => heap_setCells b _ _ _ k hk) (size_setCells b _ _ _)
theorem wpList_store_rh (hgd : op.guard = none) (x y : Operand) (ho : op.op = .store 26 x y)
    (b : Nat) (hx : a.eval x = .pointer (some ⟨b, 3, none⟩)) (l0 l1 l2 : Int) (hy : a.eval y = .agg #[.int .u8 l0, .int .u32 l1, .int .u8 l2]) {r : Rec} {A : Option Addr} {n c : Nat} (hB : BoxR W b r A n c) (ht : ThereR W b) (base : Nat) (hb : base ≤ b)
    (h : ∀ W', BoxR W' b { r with op := { r.op with l := l0, c := l1, k := l2 } } A n c → ThereR W' b → Below base W W' → (∀ k, k ≠ b → W'.heap[k]? = W.heap[k]?) → W'.heap.size = W.heap.size → wpList Tryz.prog ops Q rest (a.put op.dst undef) W') : wpList Tryz.prog ops Q (op :: rest) a W := by
  refine wpList_store_mid hgd 26 x y ho b 3 _ hx hy (there_part ht 3 3 (by omega)) info_Hs (by simp [Value.oneCell']) ?_
  exact h _ (hB.setBy ht l0 l1 l2) (World.there_setCells ht b 3 _) (below_setCells b base hb _ _ _) (fun k hk => heap_setCells b _ _ _ k hk) (size_setCells b _ _ _)
end
theorem results_r {fn : Func} {p : Tmp} (h : fn.results = #[.cell p 40]) {tmps : Array Value} {w : World} {b : Nat} (hp : tmps.getD p undef = .pointer (some ⟨b, 0, none⟩)) {r : Rec} {A : Option Addr} {n c : Nat} (bx : BoxR w b r A n c) : (results fn tmps).run Tryz.prog w = .ok (.agg #[.int .u8 r.kd, .int .i64 r.us, .int .u8 r.op.kd, .int .u8 r.op.l, .int .u32 r.op.c, .int .u8 r.op.k, .int .i64 r.op.s, .int .u8 r.op.fl, .int .u32 r.op.fc, .int .u8 r.op.fk, .int .i64 r.op.fn, .int .i64 r.op.fm, .int .u8 r.op.al, .int .u32 r.op.ac, .int .u8 r.op.ak, .int .i64 r.op.an, .int .u8 r.op.tl, .int .u32 r.op.tc, .slice A n c, .int .i64 r.co, .int .i64 r.gr.u, .int .u8 r.gr.l, .int .u32 r.gr.c, .bool r.gr.ok]) w := by
  have hl := run_loadVar_mid (P := Tryz.prog) w b 0 40 _ _ bx Tryz.underlying40 rfl info_R
  simp only [results, h]
  rw [Array.getD_eq_getD_getElem?] at hp
  simp [Sem.run_bind, hp, asAddr, hl]
theorem results_r1 {fn : Func} {p u : Tmp} (h : fn.results = #[.cell p 40, .tmp u]) {tmps : Array Value} {w : World} {b : Nat} (hp : tmps.getD p undef = .pointer (some ⟨b, 0, none⟩)) {r : Rec} {A : Option Addr} {n c : Nat} (bx : BoxR w b r A n c) : (results fn tmps).run Tryz.prog w = .ok (.tuple #[.agg #[.int .u8 r.kd, .int .i64 r.us, .int .u8 r.op.kd, .int .u8 r.op.l, .int .u32 r.op.c, .int .u8 r.op.k, .int .i64 r.op.s, .int .u8 r.op.fl, .int .u32 r.op.fc, .int .u8 r.op.fk, .int .i64 r.op.fn, .int .i64 r.op.fm, .int .u8 r.op.al, .int .u32 r.op.ac, .int .u8 r.op.ak, .int .i64 r.op.an, .int .u8 r.op.tl, .int .u32 r.op.tc, .slice A n c, .int .i64 r.co, .int .i64 r.gr.u, .int .u8 r.gr.l, .int .u32 r.gr.c, .bool r.gr.ok], tmps.getD u undef]) w := by
  have hl := run_loadVar_mid (P := Tryz.prog) w b 0 40 _ _ bx Tryz.underlying40 rfl info_R
  simp only [results, h]
  rw [Array.getD_eq_getD_getElem?] at hp
  simp [Sem.run_bind, hp, asAddr, hl]

/-! ### Blocks: slices of bytes in a slice -/
structure Bx where
  A : Option Addr
  c : Nat
  l : List UInt8
def fb (x : Bx) : List Value := [.slice x.A x.l.length x.c]
theorem fb_len (x : Bx) : (fb x).length = 1 := rfl
theorem fb_one (x : Bx) : ∀ u ∈ fb x, u.oneCell' = true := fun u hu => by
  simp only [fb, List.mem_singleton] at hu
  subst hu; rfl
theorem info_Bs : (Tryz.prog.info? 51).map (fun i => (i.zero, i.size, i.bytes)) = some (some (.slice none 0 0), 1, 24) := by kernel_rfl
def RdB (w : World) (A : Option Addr) (c : Nat) (L : List (List UInt8)) : Prop := ∃ xs : List Bx, xs.map (·.l) = L ∧ Rds fb w A c xs ∧ ∀ x ∈ xs, Rd w x.A x.c x.l
theorem RdB.keep {w w' : World} (hb : Below w.heap.size w w') {A : Option Addr} {c : Nat} {L : List (List UInt8)} (h : RdB w A c L) : RdB w' A c L := by
  obtain ⟨xs, h1, h2, h3⟩ := h
  exact ⟨xs, h1, h2.keep hb, fun x hx => (h3 x hx).keep hb⟩
theorem RdB.nil (w : World) : RdB w none 0 [] := ⟨[], rfl, Rds.nil w, fun x hx => by cases hx⟩
theorem RdB.len {w : World} {A : Option Addr} {c : Nat} {L : List (List UInt8)} (h : RdB w A c L) : L.length ≤ c := by
  obtain ⟨xs, rfl, h2, h3⟩ := h
  rw [List.length_map]; exact h2.1
theorem RdB.cap {w : World} {A : Option Addr} {c : Nat} {L : List (List UInt8)} (h : RdB w A c L) : c ≤ 9223372036854775807 := by
  obtain ⟨xs, rfl, h2, h3⟩ := h
  exact h2.2.1
theorem RdB.at_ {w : World} {A : Option Addr} {c : Nat} {L : List (List UInt8)} (h : RdB w A c L) (hp : 0 < L.length) :
    ∃ b o, A = some ⟨b, o, none⟩ ∧ ∀ j (hj : j < L.length), ∃ B d, w.cell? ⟨b, o + j, none⟩ = some (.slice B (L[j]).length d) ∧ Rd w B d L[j] := by
  obtain ⟨xs, rfl, h2, h3⟩ := h
  rw [List.length_map] at hp
  obtain ⟨b, o, hA, hc⟩ := h2.2.2 hp
  refine ⟨b, o, hA, fun j hj => ?_⟩
  have hj' : j < xs.length := by rwa [List.length_map] at hj
  have e : (xs.map (·.l))[j] = xs[j].l := by simp
  rw [e]
  refine ⟨xs[j].A, xs[j].c, ?_, h3 _ (List.getElem_mem hj')⟩
  have := Rds.each (c := c) fb_len hc j hj' 0 (by omega) _ rfl
  simpa using this
/-- Blocks of the call's own. -/
def OwB (w : World) (base : Nat) (A : Option Addr) (c : Nat) (L : List (List UInt8)) : Prop := ∃ xs : List Bx, xs.map (·.l) = L ∧ Owns fb 1 w base 51 A c xs ∧ ∀ x ∈ xs, Own w base 5 x.A x.c x.l
theorem OwB.nil (w : World) (base : Nat) : OwB w base none 0 [] := ⟨[], rfl, Owns.nil w base _, fun x hx => by cases hx⟩
theorem OwB.keep {w w' : World} {base : Nat} {A : Option Addr} {c : Nat} {L : List (List UInt8)} (h : OwB w base A c L) (hb : Below w.heap.size w w') : OwB w' base A c L := by
  obtain ⟨xs, h1, h2, h3⟩ := h
  exact ⟨xs, h1, h2.keep hb, fun x hx => (h3 x hx).keep hb⟩
theorem OwB.rd {w : World} {base : Nat} {A : Option Addr} {c : Nat} {L : List (List UInt8)} (h : OwB w base A c L) : RdB w A c L := by
  obtain ⟨xs, h1, h2, h3⟩ := h
  exact ⟨xs, h1, h2.rd fb_len, fun x hx => (h3 x hx).rd⟩
theorem OwB.base {w : World} {base base' : Nat} {A : Option Addr} {c : Nat} {L : List (List UInt8)} (h : OwB w base A c L) (hb : base' ≤ base) : OwB w base' A c L := by
  obtain ⟨xs, h1, h2, h3⟩ := h
  exact ⟨xs, h1, h2.mono hb, fun x hx => (h3 x hx).mono hb⟩
theorem Own.grown {w w' : World} {base base2 : Nat} {A A2 : Option Addr} {c c2 : Nat} {l : List UInt8} {xs : List Bx} (h : Own w base 5 A c l) (ho : Owns fb 1 w base2 51 A2 c2 xs) (hg : w.grownBy w' (Value.slice A2 xs.length c2).ownBlock) : Own w' base 5 A c l := by
  refine World.ownsRow.kept h hg ?_
  obtain ⟨_, h1⟩ := h
  rcases h1 with ⟨hv, _⟩ | ⟨g, cap, cur, hv, _, hg1, _⟩
  · rw [hv]; exact .inl rfl
  · refine .inr fun e => ?_
    rw [hv] at e
    obtain ⟨_, h2⟩ := ho
    rcases h2 with ⟨hv2, _⟩ | ⟨g2, cap2, cur2, hv2, _, hg2, _⟩
    · rw [hv2] at e; cases e
    · rw [hv2] at e
      simp only [Value.ownBlock, Option.some.injEq] at e
      subst e
      rw [hg1] at hg2
      simp at hg2
/-- append of one block, in a block of its own, onto such a slice. -/
theorem wpList_append_b {w : World} {ops : Array Oper} {rest : List Oper} {o : Oper} {a : Act} {Q : Exit → Act → World → Prop} (hgd : o.guard = none) (x0 x : Operand)
    (ho : o.op = .call { callee := .builtin .append, args := #[x0, x], argTypes := #[45, 45] })
    (base : Nat) (A : Option Addr) (n c : Nat) (L : List (List UInt8)) (hn : Hid (L.length = n)) (hs' : a.eval x0 = .slice A n c) (y : List UInt8) (B : Option Addr) (m d : Nat) (hm : Hid (y.length = m)) (w1 : World) (hw : w = w1.alloc (.cells #[.slice B m d] 51)) (hown : OwB w1 base A c L) (hrow : Own w1 base 5 B d y) (g : Nat) (hg : g = w1.heap.size)
    (hx : a.eval x = .slice (some ⟨g, 0, none⟩) 1 1) (hlen : n + 1 ≤ 10000) (hbase : base ≤ w1.heap.size)
    (h : ∀ A' c' w', OwB w' base A' c' (L ++ [y]) → Below base w1 w' → wpList Tryz.prog ops Q rest (a.put o.dst (.slice A' (n + 1) c')) w') : wpList Tryz.prog ops Q (o :: rest) a w := by
  obtain ⟨xs, h1, h2, h3⟩ := hown
  obtain ⟨i0, hi0, hz0, hz1, hz2⟩ := info_parts info_Bs
  have hn' := hn.out
  have hm' := hm.out
  subst hw hg hm'
  have hb0 : Below w1.heap.size w1 (w1.alloc (.cells #[.slice B y.length d] 51)) := (Below.refl _ _).alloc (Nat.le_refl _) _
  have hlit := (Owns.lit fb_len (by omega) w1 (base := base) 51 [⟨B, d, y⟩] hbase (by simp)).rd fb_len
  refine wpList_append_s hgd x0 x 45 ho base 51 fb_len (by omega) fb_one Tryz.underlying45 hi0 hz0 rfl hz1 hz2 (by omega) A n c xs (hid (by rw [← hn', ← h1, List.length_map])) hs' (h2.keep hb0) _ 1 1 [⟨B, d, y⟩] (hid rfl) hx hlit (by omega) (by simp; omega) ?_
  intro A' c' w' k1 k2 k3
  refine h A' c' w' ⟨xs ++ [⟨B, d, y⟩], by rw [List.map_append, h1]; rfl, k1, fun x hx => ?_⟩ ((hb0.mono hbase).trans k2)
  have h2' := h2.keep hb0
  rcases List.mem_append.1 hx with hx | hx
  · exact ((h3 x hx).keep hb0).grown h2' k3
  · obtain rfl := List.mem_singleton.1 hx
    exact (hrow.keep hb0).grown h2' k3

/-! ### Heads -/
def BoxD (W : World) (b : Nat) (s n i f : Int) : Prop := W.rangeAt b 0 ([.int .i64 s, .int .i64 n, .int .i64 i, .int .i64 f])
theorem BoxD.keep {W W' : World} {b : Nat} {s n i f : Int} (h : BoxD W b s n i f) (hb : Below W.heap.size W W') : BoxD W' b s n i f := range_keep h hb
theorem boxD_new (w : World) (s n i f : Int) (t : TypeId) : BoxD (w.alloc (.cells (#[.int .i64 s, .int .i64 n, .int .i64 i, .int .i64 f]) t)) w.heap.size s n i f := range_new w _ t
end Go.Proofs.YtndmblhkmgnpcaaGreat
