/-
  An operation in new memory: the program's Twin of layer 9, and the document's.
-/
import Derived.Test.YtndmblhkmgnpcaaGreatOF
import Derived.Test.YtndmblhkmgnpcaaGreatOS
import Derived.BigRegion
import Derived.OneCell
namespace Go.Proofs.YtndmblhkmgnpcaaGreat
open Go.RowKit
set_option linter.unusedVariables false
set_option linter.unusedSimpArgs false

/-- The call hands back an operation whose row is its own. -/
def RetTwin (w : World) (o : Opd) (n : Nat) (e : Ending) (w' : World) : Prop := ∃ A c, e = .returned (.agg #[.int .u8 o.kd, .int .u8 o.l, .int .u32 o.c, .int .u8 o.k, .int .i64 o.s, .int .u8 o.fl, .int .u32 o.fc, .int .u8 o.fk, .int .i64 o.fn, .int .i64 o.fm, .int .u8 o.al, .int .u32 o.ac, .int .u8 o.ak, .int .i64 o.an, .int .u8 o.tl, .int .u32 o.tc, .slice A n c]) ∧ OwnI w' w.heap.size 21 A c o.row ∧ Below w.heap.size w w'
theorem rowO_self (o : Opd) : { o with row := o.row } = o := rfl
/-- The two boxes that a copy begins with. -/
structure Pair (w W : World) (o : Opd) (A : Option Addr) (n c : Nat) : Prop where
  bx : BoxO W w.heap.size o A n c
  tx : ThereO W w.heap.size
  ty : ThereO W (w.heap.size + 1)
  be : Below w.heap.size w W
  sz : W.heap.size = w.heap.size + 2
theorem pair_new (w : World) (o : Opd) (A : Option Addr) (n c : Nat) (Z : Array Value) (hZ : Z.size = 17) : Pair w ((w.alloc (.cells #[.int .u8 o.kd, .int .u8 o.l, .int .u32 o.c, .int .u8 o.k, .int .i64 o.s, .int .u8 o.fl, .int .u32 o.fc, .int .u8 o.fk, .int .i64 o.fn, .int .i64 o.fm, .int .u8 o.al, .int .u32 o.ac, .int .u8 o.ak, .int .i64 o.an, .int .u8 o.tl, .int .u32 o.tc, .slice A n c] 33)).alloc (.cells Z 33)) o A n c := by
  have e1 : (w.alloc (.cells #[.int .u8 o.kd, .int .u8 o.l, .int .u32 o.c, .int .u8 o.k, .int .i64 o.s, .int .u8 o.fl, .int .u32 o.fc, .int .u8 o.fk, .int .i64 o.fn, .int .i64 o.fm, .int .u8 o.al, .int .u32 o.ac, .int .u8 o.ak, .int .i64 o.an, .int .u8 o.tl, .int .u32 o.tc, .slice A n c] 33)).heap.size = w.heap.size + 1 := by simp [go_sem]
  have hb : ∀ (W : World) (x : Obj), Below W.heap.size W (W.alloc x) := fun W x => (Below.refl _ _).alloc (Nat.le_refl _) _
  have ty := thereO_new (w.alloc (.cells #[.int .u8 o.kd, .int .u8 o.l, .int .u32 o.c, .int .u8 o.k, .int .i64 o.s, .int .u8 o.fl, .int .u32 o.fc, .int .u8 o.fk, .int .i64 o.fn, .int .i64 o.fm, .int .u8 o.al, .int .u32 o.ac, .int .u8 o.ak, .int .i64 o.an, .int .u8 o.tl, .int .u32 o.tc, .slice A n c] 33)) Z hZ 33
  rw [e1] at ty
  exact ⟨(boxO_new w o A n c _).keep (hb _ _), (thereO_new w _ rfl _).keep (hb _ _), ty, (hb w _).trans ((hb _ _).mono (by rw [e1]; omega)), by simp [go_sem]⟩

set_option maxRecDepth 100000 in
set_option maxHeartbeats 1600000 in
theorem otwin_any (o : Opd) (A : Option Addr) (n c : Nat) (hn : Hid (o.row.length = n)) (h5 : n ≤ 10000) (w : World) (hr : Ri w A c o.row) :
    Calls Tryz.prog 49 #[.agg #[.int .u8 o.kd, .int .u8 o.l, .int .u32 o.c, .int .u8 o.k, .int .i64 o.s, .int .u8 o.fl, .int .u32 o.fc, .int .u8 o.fk, .int .i64 o.fn, .int .i64 o.fm, .int .u8 o.al, .int .u32 o.ac, .int .u8 o.ak, .int .i64 o.an, .int .u8 o.tl, .int .u32 o.tc, .slice A n c]] w (RetTwin w o n) := by
  have pp := pair_new w o A n c #[.int .u8 0, .int .u8 0, .int .u32 0, .int .u8 0, .int .i64 0, .int .u8 0, .int .u32 0, .int .u8 0, .int .i64 0, .int .i64 0, .int .u8 0, .int .u32 0, .int .u8 0, .int .i64 0, .int .u8 0, .int .u32 0, .slice none 0 0] rfl
  go_enter Tryz.func49, Tryz.ntmps49
  go_wp2_with fail
  generalize World.alloc (World.alloc w _) _ = W at pp ⊢
  refine (clone_any A n c o.row hn h5 _ (hr.keep pp.be)).mono ?_
  rintro e w1 ⟨A1, c1, rfl, ho, b1⟩
  have bx1 := pp.bx.keep b1
  have tx1 := pp.tx.keep b1
  have ty1 := pp.ty.keep b1
  have hbe := below_in pp.be b1
  have hlo : w.heap.size < W.heap.size := by rw [pp.sz]; omega
  have f16 := tx1.at_ 16 (by decide)
  have b16 := bx1.c16
  have bx2 := set_row bx1 tx1 A1 n c1 o.row
  have ty2 : ThereO (World.setCells w1 w.heap.size 16 [.slice A1 n c1]) (w.heap.size + 1) := there_other ty1 (fun k hk => heap_setCells w.heap.size _ 16 w1 k hk) (by omega)
  have ho2 : OwnI (World.setCells w1 w.heap.size 16 [.slice A1 n c1]) W.heap.size 21 A1 c1 o.row := ho.other (fun k hk => heap_setCells w.heap.size _ 16 w1 k hk) hlo
  have hbe2 : Below w.heap.size w (World.setCells w1 w.heap.size 16 [.slice A1 n c1]) := hbe.trans (below_setCells w.heap.size _ (Nat.le_refl _) _ 16 w1)
  have one : True := trivial
  go_wp2_with (first
    | (clear one; refine wpList_load_o rfl (.tmp 1) rfl _ rfl bx2 ?_)
    | (refine wpList_store_o rfl (.tmp 2) (.tmp 7) rfl (w.heap.size + 1) rfl o A1 n c1 rfl ty2 (w.heap.size + 1) (Nat.le_refl _) ?_; intro w4 bx4 th4 b4 hh4 sz4))
  exact bodyPost_ret (results_o rfl rfl bx4) rfl ⟨A1, c1, rfl, OwnI.base (by omega) (ho2.other hh4 (by rw [pp.sz]; omega)), hbe2.trans (b4.mono (by omega))⟩

set_option maxRecDepth 100000 in
set_option maxHeartbeats 1600000 in
theorem rtwin_any (o : Opd) (A : Option Addr) (n c : Nat) (hn : Hid (o.row.length = n)) (h5 : n ≤ 10000) (w : World) (hr : Ri w A c o.row) :
    Calls Tryz.prog 41 #[.agg #[.int .u8 o.kd, .int .u8 o.l, .int .u32 o.c, .int .u8 o.k, .int .i64 o.s, .int .u8 o.fl, .int .u32 o.fc, .int .u8 o.fk, .int .i64 o.fn, .int .i64 o.fm, .int .u8 o.al, .int .u32 o.ac, .int .u8 o.ak, .int .i64 o.an, .int .u8 o.tl, .int .u32 o.tc, .slice A n c]] w (RetTwin w o n) := by
  obtain ⟨i0, hi0, hz0, hz1, hz2⟩ := info_parts info_i32
  have pp := pair_new w o A n c #[.int .u8 0, .int .u8 0, .int .u32 0, .int .u8 0, .int .i64 0, .int .u8 0, .int .u32 0, .int .u8 0, .int .i64 0, .int .i64 0, .int .u8 0, .int .u32 0, .int .u8 0, .int .i64 0, .int .u8 0, .int .u32 0, .slice none 0 0] rfl
  go_enter Tryz.func41, Tryz.ntmps41
  have one : True := trivial
  have two : True := trivial
  go_wp2_with (first
    | (at_builtin; clear two; generalize World.alloc (World.alloc w _) _ = W at pp ⊢; refine wpList_append_i rfl (.const (.slice none 0 0)) (.tmp 4) _ rfl W.heap.size 21 Tryz.underlying31 hi0 hz0 hz1 hz2 none 0 0 [] (hid rfl) rfl (OwnI.nil _ _ _) A n c o.row hn rfl (hr.keep pp.be) (by omega) (Nat.le_refl _) ?_; intro A1 c1 w1 ho b1; rw [List.nil_append] at ho; have bx1 := pp.bx.keep b1; have tx1 := pp.tx.keep b1; have ty1 := pp.ty.keep b1; have hbe := below_in pp.be b1; have hlo : w.heap.size < W.heap.size := (by rw [pp.sz]; omega); have f16 := tx1.at_ 16 (by decide); have b16 := bx1.c16; have bx2 := set_row bx1 tx1 A1 n c1 o.row; have ty2 : ThereO (World.setCells w1 w.heap.size 16 [.slice A1 n c1]) (w.heap.size + 1) := there_other ty1 (fun k hk => heap_setCells w.heap.size _ 16 w1 k hk) (by omega); have ho2 : OwnI (World.setCells w1 w.heap.size 16 [.slice A1 n c1]) W.heap.size 21 A1 c1 o.row := ho.other (fun k hk => heap_setCells w.heap.size _ 16 w1 k hk) hlo; have hbe2 : Below w.heap.size w (World.setCells w1 w.heap.size 16 [.slice A1 n c1]) := hbe.trans (below_setCells w.heap.size _ (Nat.le_refl _) _ 16 w1))
    | (clear one; refine wpList_load_o rfl (.tmp 1) rfl _ rfl bx2 ?_)
    | (refine wpList_store_o rfl (.tmp 2) (.tmp 7) rfl (w.heap.size + 1) rfl o A1 n c1 rfl ty2 (w.heap.size + 1) (Nat.le_refl _) ?_; intro w4 bx4 th4 b4 hh4 sz4))
  exact bodyPost_ret (results_o rfl rfl bx4) rfl ⟨A1, c1, rfl, OwnI.base (by omega) (ho2.other hh4 (by rw [pp.sz]; omega)), hbe2.trans (b4.mono (by omega))⟩

end Go.Proofs.YtndmblhkmgnpcaaGreat
