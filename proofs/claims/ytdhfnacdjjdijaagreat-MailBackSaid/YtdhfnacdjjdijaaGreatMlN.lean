/-
  Whether mail may be: hasOnly, Check, Up.
-/
import Derived.Test.YtdhfnacdjjdijaaGreatMlL
namespace Go.Proofs.YtdhfnacdjjdijaaGreat
open Go.RowKit
set_option linter.unusedVariables false
set_option linter.unusedSimpArgs false

theorem setM0 {W : World} {b : Nat} {m : Mld} {A : Option Addr} {n c : Nat} (h : BoxM W b m A n c) (ht : ThereM W b) (x : Int) : BoxM (W.setCells b 0 [.int .u8 x]) b { m with kd := x } A n c := by
  have hs := World.rangeAt_setCells_same W b 0 [.int .u8 x] (fun j hj => by have := ht (0 + j) (by simp at hj; omega); simpa using this)
  exact ⟨hs 0 _ rfl, cell_out h.c1 (by simp), cell_out h.c2 (by simp), cell_out h.c3 (by simp), cell_out h.c4 (by simp), cell_out h.c5 (by simp), cell_out h.c6 (by simp), cell_out h.c7 (by simp), cell_out h.c8 (by simp), cell_out h.c9 (by simp), cell_out h.c10 (by simp), cell_out h.c11 (by simp)⟩

set_option maxRecDepth 100000 in
set_option maxHeartbeats 1600000 in
theorem hasOnly_of (f0 f1 f2 f3 : FuncId) (E0 : ∀ args W, (callFunc f0 args).run Tryz.prog W = .ok (.enter f0 args) W) (m om : Mld) (q : Bool) (A : Option Addr) (n c : Nat) (hn : Hid (m.ops.length = n)) (A0 : Option Addr) (n0 c0 : Nat) (hn0 : Hid (om.ops.length = n0)) (hO : ∀ W, Calls Tryz.prog f0 #[.agg #[.int .u8 m.kd, .int .i64 m.us, .int .i64 m.se, .int .i64 m.co, .int .i64 m.fr, .int .i64 m.tt, .int .u8 m.ak, .int .i64 m.t0, .int .i64 m.t1, .int .i64 m.t2, .int .i64 m.t3, .slice A n c]] W fun e w' => e = .returned (.agg #[.int .u8 om.kd, .int .i64 om.us, .int .i64 om.se, .int .i64 om.co, .int .i64 om.fr, .int .i64 om.tt, .int .u8 om.ak, .int .i64 om.t0, .int .i64 om.t1, .int .i64 om.t2, .int .i64 om.t3, .slice A0 n0 c0]) ∧ Below W.heap.size W w') (hq : Hid (sameM m { om with kd := m.kd } = q)) (w : World) (hr : RdO w A c m.ops) (hr0 : RdO w A0 c0 om.ops) :
    Calls Tryz.prog 26 #[.agg #[.int .u8 m.kd, .int .i64 m.us, .int .i64 m.se, .int .i64 m.co, .int .i64 m.fr, .int .i64 m.tt, .int .u8 m.ak, .int .i64 m.t0, .int .i64 m.t1, .int .i64 m.t2, .int .i64 m.t3, .slice A n c], .agg #[.func (.func f0) #[] #[], .func (.func f1) #[] #[], .func (.func f2) #[] #[], .func (.func f3) #[] #[]]] w fun e w' => e = .returned (.bool q) ∧ Below w.heap.size w w' := by
  have bx := (boxM_new w m A n c 27).keep (past_alloc (o := .cells #[.func (.func f0) #[] #[], .func (.func f1) #[] #[], .func (.func f2) #[] #[], .func (.func f3) #[] #[]] 63) (Below.refl _ _))
  have HO := hid hO
  clear hO
  go_enter Tryz.func26, Tryz.ntmps26
  go_wp2_with (refine wpList_load_m rfl (.tmp 2) rfl w.heap.size rfl bx ?_)
  refine (HO.out _).mono ?_
  rintro e w1 ⟨rfl, b1⟩
  have bx1 := bx.keep b1
  have b01 := past_alloc2 b1
  have th := thereM_new w1 (#[.int .u8 0, .int .i64 0, .int .i64 0, .int .i64 0, .int .i64 0, .int .i64 0, .int .u8 0, .int .i64 0, .int .i64 0, .int .i64 0, .int .i64 0, .slice none 0 0]) rfl 27
  have hlt : w.heap.size < w1.heap.size := World.block_lt_of_cell? w1 _ bx1.c0
  clear bx b1 HO E0
  have one : True := trivial
  go_wp2_with (first
    | (clear one; refine wpList_store_m rfl (.tmp 5) (.tmp 9) rfl w1.heap.size rfl om A0 n0 c0 rfl th w1.heap.size (Nat.le_refl _) ?_; intro w2 bx2 th2 b2 hh2 sz2; clear sz2 hh2; have b12 : Below w1.heap.size w1 w2 := ((Below.refl _ _).alloc (Nat.le_refl _) _).trans b2; have bm2 := bx1.keep b12; have c0' := bm2.c0; have u0 := bx2.c0; have f0' := ThereM.at_ th2 0 (by omega); have bx3 : BoxM (w2.setCell ⟨w1.heap.size, 0, none⟩ (.int .u8 m.kd)) w1.heap.size { om with kd := m.kd } A0 n0 c0 := setM0 bx2 th2 m.kd; have bm3 : BoxM (w2.setCell ⟨w1.heap.size, 0, none⟩ (.int .u8 m.kd)) w.heap.size m A n c := bm2.other (b := w1.heap.size) (fun k hk => Below.heap_setCell w2 ⟨w1.heap.size, 0, none⟩ (.int .u8 m.kd) k hk) (by omega))
    | (refine wpList_load_m rfl (.tmp 2) rfl w.heap.size rfl bm3 ?_)
    | (refine wpList_load_m rfl (.tmp 5) rfl w1.heap.size rfl bx3 ?_))
  have hB : Below w.heap.size w (w2.setCell ⟨w1.heap.size, 0, none⟩ (.int .u8 m.kd)) := (below_in b01 b12).setCell (p := ⟨w1.heap.size, 0, none⟩) (Nat.le_of_lt hlt) _
  refine (msame_of q m A n c hn { om with kd := m.kd } A0 n0 c0 hn0 hq _ (hr.keep hB) (hr0.keep hB)).mono ?_
  rintro e w3 ⟨rfl, b3⟩
  have hB3 := below_in hB b3
  clear bx1 bx2 bx3 bm2 bm3 th th2 c0' u0 f0' b01 b12 b2 b3 hB hlt
  go_wp2
  go_ret
  exact ⟨rfl, hB3⟩
end Go.Proofs.YtdhfnacdjjdijaaGreat
