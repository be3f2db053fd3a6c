/-
  The document's own Get of layer 10.
-/
import Derived.Test.YtdhfnacdjjdijaaGreatMnH
import Derived.Test.YtdhfnacdjjdijaaGreatMnJ
import Derived.Test.YtdhfnacdjjdijaaGreatMnG
import Derived.Test.YtdhfnacdjjdijaaGreatMlU
import Derived.Deep.RegionHeld
namespace Go.Proofs.YtdhfnacdjjdijaaGreat
open Go.RowKit
set_option linter.unusedVariables false
set_option linter.unusedSimpArgs false

theorem size2 (w : World) (a b : Obj) : ((w.alloc a).alloc b).heap.size = w.heap.size + 2 := by simp [go_sem]
theorem below2 (w : World) (a b : Obj) : Below w.heap.size w ((w.alloc a).alloc b) := by go_grown
theorem there1 (w : World) (b : Obj) : ThereM ((w.alloc (.cells (#[.int .u8 0, .int .i64 0, .int .i64 0, .int .i64 0, .int .i64 0, .int .i64 0, .int .u8 0, .int .i64 0, .int .i64 0, .int .i64 0, .int .i64 0, .slice none 0 0]) 27)).alloc b) w.heap.size := ThereM.keep (thereM_new w _ rfl _) ((Below.refl _ _).alloc (Nat.le_refl _) _)
theorem there2 (w : World) (o : Obj) (cs : Array Value) (hc : cs.size = 12) : ThereM ((w.alloc o).alloc (.cells cs 27)) (w.heap.size + 1) := by
  have h := thereM_new (w.alloc o) cs hc 27
  rwa [size1] at h
theorem there_setc {W : World} {b : Nat} (h : ThereM W b) (g i : Nat) (v : Value) : ThereM (W.setCell ⟨g, i, none⟩ v) b := World.there_setCells h g i [v]
/-- What the cases of a kind end with: mail in the second box, which is what the bytes would tell. -/
structure Fing (w0 w : World) (l : List UInt8) (m : Mld) (A : Option Addr) (k c : Nat) : Prop where
  bx : BoxM w (w0.heap.size + 1) m A k c
  len : m.ops.length = k
  rd : OwO w (w0.heap.size + 1) A c m.ops
  r : Mlr m
  one : ∀ m', Mis l m' → m' = m
  be : Below w0.heap.size w0 w
  th : ThereM w w0.heap.size
def RetGR (w : World) (l : List UInt8) (e : Ending) (w' : World) : Prop := ∃ m A k c j, e = .returned (.tuple #[.agg #[.int .u8 m.kd, .int .i64 m.us, .int .i64 m.se, .int .i64 m.co, .int .i64 m.fr, .int .i64 m.tt, .int .u8 m.ak, .int .i64 m.t0, .int .i64 m.t1, .int .i64 m.t2, .int .i64 m.t3, .slice A k c], .int .i64 j]) ∧ Gom l m j ∧ m.ops.length = k ∧ RdO w' A c m.ops ∧ Below w.heap.size w w'

end Go.Proofs.YtdhfnacdjjdijaaGreat
