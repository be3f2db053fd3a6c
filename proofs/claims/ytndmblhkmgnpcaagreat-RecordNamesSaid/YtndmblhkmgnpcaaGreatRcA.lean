/-
  The document's own answers of layer 11: Twin, none, Same.
-/
import Derived.Test.YtndmblhkmgnpcaaGreatRcW
import Derived.Test.YtndmblhkmgnpcaaGreatOF
namespace Go.Proofs.YtndmblhkmgnpcaaGreat
open Go.RowKit
set_option linter.unusedVariables false
set_option linter.unusedSimpArgs false

theorem size1 (w : World) (a : Obj) : (w.alloc a).heap.size = w.heap.size + 1 := by simp [go_sem]
theorem size2 (w : World) (a b : Obj) : ((w.alloc a).alloc b).heap.size = w.heap.size + 2 := by simp [go_sem]
theorem below1 (w : World) (a : Obj) : Below w.heap.size w (w.alloc a) := by go_grown
theorem below2 (w : World) (a b : Obj) : Below w.heap.size w ((w.alloc a).alloc b) := by go_grown
/-- TwoR boxes of records. -/
structure TwoR (w W : World) (a : Rec) (A : Option Addr) (n c : Nat) (b : Rec) (B : Option Addr) (m d : Nat) : Prop where
  xa : BoxR W w.heap.size a A n c
  xb : BoxR W (w.heap.size + 1) b B m d
  ta : ThereR W w.heap.size
  tb : ThereR W (w.heap.size + 1)
  be : Below w.heap.size w W
  sz : W.heap.size = w.heap.size + 2
theorem twoR_new (w : World) (a : Rec) (A : Option Addr) (n c : Nat) (b : Rec) (B : Option Addr) (m d : Nat) : TwoR w ((w.alloc (.cells (#[.int .u8 a.kd, .int .i64 a.us, .int .u8 a.op.kd, .int .u8 a.op.l, .int .u32 a.op.c, .int .u8 a.op.k, .int .i64 a.op.s, .int .u8 a.op.fl, .int .u32 a.op.fc, .int .u8 a.op.fk, .int .i64 a.op.fn, .int .i64 a.op.fm, .int .u8 a.op.al, .int .u32 a.op.ac, .int .u8 a.op.ak, .int .i64 a.op.an, .int .u8 a.op.tl, .int .u32 a.op.tc, .slice A n c, .int .i64 a.co, .int .i64 a.gr.u, .int .u8 a.gr.l, .int .u32 a.gr.c, .bool a.gr.ok]) 40)).alloc (.cells (#[.int .u8 b.kd, .int .i64 b.us, .int .u8 b.op.kd, .int .u8 b.op.l, .int .u32 b.op.c, .int .u8 b.op.k, .int .i64 b.op.s, .int .u8 b.op.fl, .int .u32 b.op.fc, .int .u8 b.op.fk, .int .i64 b.op.fn, .int .i64 b.op.fm, .int .u8 b.op.al, .int .u32 b.op.ac, .int .u8 b.op.ak, .int .i64 b.op.an, .int .u8 b.op.tl, .int .u32 b.op.tc, .slice B m d, .int .i64 b.co, .int .i64 b.gr.u, .int .u8 b.gr.l, .int .u32 b.gr.c, .bool b.gr.ok]) 40)) a A n c b B m d := by
  have e1 := size1 w (.cells (#[.int .u8 a.kd, .int .i64 a.us, .int .u8 a.op.kd, .int .u8 a.op.l, .int .u32 a.op.c, .int .u8 a.op.k, .int .i64 a.op.s, .int .u8 a.op.fl, .int .u32 a.op.fc, .int .u8 a.op.fk, .int .i64 a.op.fn, .int .i64 a.op.fm, .int .u8 a.op.al, .int .u32 a.op.ac, .int .u8 a.op.ak, .int .i64 a.op.an, .int .u8 a.op.tl, .int .u32 a.op.tc, .slice A n c, .int .i64 a.co, .int .i64 a.gr.u, .int .u8 a.gr.l, .int .u32 a.gr.c, .bool a.gr.ok]) 40)
  have xb := boxR_new (w.alloc (.cells (#[.int .u8 a.kd, .int .i64 a.us, .int .u8 a.op.kd, .int .u8 a.op.l, .int .u32 a.op.c, .int .u8 a.op.k, .int .i64 a.op.s, .int .u8 a.op.fl, .int .u32 a.op.fc, .int .u8 a.op.fk, .int .i64 a.op.fn, .int .i64 a.op.fm, .int .u8 a.op.al, .int .u32 a.op.ac, .int .u8 a.op.ak, .int .i64 a.op.an, .int .u8 a.op.tl, .int .u32 a.op.tc, .slice A n c, .int .i64 a.co, .int .i64 a.gr.u, .int .u8 a.gr.l, .int .u32 a.gr.c, .bool a.gr.ok]) 40)) b B m d 40
  have tb := thereR_new (w.alloc (.cells (#[.int .u8 a.kd, .int .i64 a.us, .int .u8 a.op.kd, .int .u8 a.op.l, .int .u32 a.op.c, .int .u8 a.op.k, .int .i64 a.op.s, .int .u8 a.op.fl, .int .u32 a.op.fc, .int .u8 a.op.fk, .int .i64 a.op.fn, .int .i64 a.op.fm, .int .u8 a.op.al, .int .u32 a.op.ac, .int .u8 a.op.ak, .int .i64 a.op.an, .int .u8 a.op.tl, .int .u32 a.op.tc, .slice A n c, .int .i64 a.co, .int .i64 a.gr.u, .int .u8 a.gr.l, .int .u32 a.gr.c, .bool a.gr.ok]) 40)) (#[.int .u8 b.kd, .int .i64 b.us, .int .u8 b.op.kd, .int .u8 b.op.l, .int .u32 b.op.c, .int .u8 b.op.k, .int .i64 b.op.s, .int .u8 b.op.fl, .int .u32 b.op.fc, .int .u8 b.op.fk, .int .i64 b.op.fn, .int .i64 b.op.fm, .int .u8 b.op.al, .int .u32 b.op.ac, .int .u8 b.op.ak, .int .i64 b.op.an, .int .u8 b.op.tl, .int .u32 b.op.tc, .slice B m d, .int .i64 b.co, .int .i64 b.gr.u, .int .u8 b.gr.l, .int .u32 b.gr.c, .bool b.gr.ok]) rfl 40
  rw [e1] at xb tb
  exact ⟨(boxR_new w a A n c _).keep (below1 _ _), xb, (thereR_new w _ rfl _).keep (below1 _ _), tb, below2 w _ _, size2 w _ _⟩

/-- The call hands back a record whose row is its own. -/
def RetRT (w : World) (r : Rec) (n : Nat) (e : Ending) (w' : World) : Prop := ∃ A c, e = .returned (.agg #[.int .u8 r.kd, .int .i64 r.us, .int .u8 r.op.kd, .int .u8 r.op.l, .int .u32 r.op.c, .int .u8 r.op.k, .int .i64 r.op.s, .int .u8 r.op.fl, .int .u32 r.op.fc, .int .u8 r.op.fk, .int .i64 r.op.fn, .int .i64 r.op.fm, .int .u8 r.op.al, .int .u32 r.op.ac, .int .u8 r.op.ak, .int .i64 r.op.an, .int .u8 r.op.tl, .int .u32 r.op.tc, .slice A n c, .int .i64 r.co, .int .i64 r.gr.u, .int .u8 r.gr.l, .int .u32 r.gr.c, .bool r.gr.ok]) ∧ OwnI w' w.heap.size 21 A c r.op.row ∧ Below w.heap.size w w'
set_option maxRecDepth 100000 in
set_option maxHeartbeats 3200000 in
theorem rctwin_of (r : Rec) (A : Option Addr) (n c : Nat) (hn : Hid (r.op.row.length = n)) (h5 : n ≤ 10000) (w : World) (hr : Ri w A c r.op.row) :
    Calls Tryz.prog 16 #[.agg #[.int .u8 r.kd, .int .i64 r.us, .int .u8 r.op.kd, .int .u8 r.op.l, .int .u32 r.op.c, .int .u8 r.op.k, .int .i64 r.op.s, .int .u8 r.op.fl, .int .u32 r.op.fc, .int .u8 r.op.fk, .int .i64 r.op.fn, .int .i64 r.op.fm, .int .u8 r.op.al, .int .u32 r.op.ac, .int .u8 r.op.ak, .int .i64 r.op.an, .int .u8 r.op.tl, .int .u32 r.op.tc, .slice A n c, .int .i64 r.co, .int .i64 r.gr.u, .int .u8 r.gr.l, .int .u32 r.gr.c, .bool r.gr.ok]] w (RetRT w r n) := by
  have pp : TwoR w ((w.alloc (.cells (#[.int .u8 r.kd, .int .i64 r.us, .int .u8 r.op.kd, .int .u8 r.op.l, .int .u32 r.op.c, .int .u8 r.op.k, .int .i64 r.op.s, .int .u8 r.op.fl, .int .u32 r.op.fc, .int .u8 r.op.fk, .int .i64 r.op.fn, .int .i64 r.op.fm, .int .u8 r.op.al, .int .u32 r.op.ac, .int .u8 r.op.ak, .int .i64 r.op.an, .int .u8 r.op.tl, .int .u32 r.op.tc, .slice A n c, .int .i64 r.co, .int .i64 r.gr.u, .int .u8 r.gr.l, .int .u32 r.gr.c, .bool r.gr.ok]) 40)).alloc (.cells (#[.int .u8 0, .int .i64 0, .int .u8 0, .int .u8 0, .int .u32 0, .int .u8 0, .int .i64 0, .int .u8 0, .int .u32 0, .int .u8 0, .int .i64 0, .int .i64 0, .int .u8 0, .int .u32 0, .int .u8 0, .int .i64 0, .int .u8 0, .int .u32 0, .slice none 0 0, .int .i64 0, .int .i64 0, .int .u8 0, .int .u32 0, .bool false]) 40)) r A n c zR none 0 0 := twoR_new w r A n c zR none 0 0
  go_enter Tryz.func16, Tryz.ntmps16
  have one : True := trivial
  go_wp2_with (clear one; generalize World.alloc (World.alloc w _) _ = W at pp ⊢; refine wpList_load_ro rfl (.tmp 3) rfl w.heap.size rfl pp.xa ?_)
  refine (rtwin_any r.op A n c hn h5 _ (hr.keep pp.be)).mono ?_
  rintro e w1 ⟨A1, c1, rfl, ho, b1⟩
  have xa := pp.xa.keep b1
  have ta := pp.ta.keep b1
  have tb := pp.tb.keep b1
  have hb := below_in pp.be b1
  have hz : W.heap.size = w.heap.size + 2 := pp.sz
  have one : True := trivial
  have two : True := trivial
  have three : True := trivial
  go_wp2_with (first
    | (clear one; refine wpList_store_ro rfl (.tmp 6) (.tmp 5) rfl w.heap.size rfl r.op A1 n c1 rfl xa ta w.heap.size (Nat.le_refl _) ?_; intro w2 x2 t2 b2 h2 z2; have tb2 := tb.other h2 (by omega))
    | (clear two; refine wpList_load_r rfl (.tmp 1) rfl w.heap.size rfl x2 ?_)
    | (clear three; refine wpList_store_r rfl (.tmp 2) (.tmp 7) rfl (w.heap.size + 1) rfl r A1 n c1 rfl tb2 w.heap.size (by omega) ?_; intro w3 x3 t3 b3 h3 z3))
  exact bodyPost_ret (results_r rfl rfl x3) rfl ⟨A1, c1, rfl, OwnI.base (by omega) ((ho.other h2 (by omega)).other h3 (by omega)), (hb.trans b2).trans b3⟩

set_option maxRecDepth 100000 in
set_option maxHeartbeats 3200000 in
theorem rnone_of (q : Bool) (o : Opd) (A : Option Addr) (n c : Nat) (hn : Hid (o.row.length = n)) (hq : Hid (noneO o = q)) (w : World) (hr : Ri w A c o.row) :
    Calls Tryz.prog 64 #[.agg #[.int .u8 o.kd, .int .u8 o.l, .int .u32 o.c, .int .u8 o.k, .int .i64 o.s, .int .u8 o.fl, .int .u32 o.fc, .int .u8 o.fk, .int .i64 o.fn, .int .i64 o.fm, .int .u8 o.al, .int .u32 o.ac, .int .u8 o.ak, .int .i64 o.an, .int .u8 o.tl, .int .u32 o.tc, .slice A n c]] w fun e w' => e = .returned (.bool q) ∧ Below w.heap.size w w' := by
  go_enter Tryz.func64, Tryz.ntmps64
  go_wp2_with fail
  refine (rsame_of q { o with l := 0, c := 0, k := 0 } A n c hn zO none 0 0 (hid rfl) hq _ (hr.alloc _) (Ri.nil _)).mono ?_
  rintro e w1 ⟨rfl, b1⟩
  have hb := past_alloc b1
  go_wp2
  go_ret
  exact ⟨rfl, hb⟩

set_option maxRecDepth 100000 in
set_option maxHeartbeats 3200000 in
theorem rcsame_of (v : Bool) (a : Rec) (A : Option Addr) (n c : Nat) (hn : Hid (a.op.row.length = n)) (b : Rec) (B : Option Addr) (m d : Nat) (hm : Hid (b.op.row.length = m)) (hv : Hid (sameR a b = v)) (w : World) (hr : Ri w A c a.op.row) (hs : Ri w B d b.op.row) :
    Calls Tryz.prog 23 #[.agg #[.int .u8 a.kd, .int .i64 a.us, .int .u8 a.op.kd, .int .u8 a.op.l, .int .u32 a.op.c, .int .u8 a.op.k, .int .i64 a.op.s, .int .u8 a.op.fl, .int .u32 a.op.fc, .int .u8 a.op.fk, .int .i64 a.op.fn, .int .i64 a.op.fm, .int .u8 a.op.al, .int .u32 a.op.ac, .int .u8 a.op.ak, .int .i64 a.op.an, .int .u8 a.op.tl, .int .u32 a.op.tc, .slice A n c, .int .i64 a.co, .int .i64 a.gr.u, .int .u8 a.gr.l, .int .u32 a.gr.c, .bool a.gr.ok], .agg #[.int .u8 b.kd, .int .i64 b.us, .int .u8 b.op.kd, .int .u8 b.op.l, .int .u32 b.op.c, .int .u8 b.op.k, .int .i64 b.op.s, .int .u8 b.op.fl, .int .u32 b.op.fc, .int .u8 b.op.fk, .int .i64 b.op.fn, .int .i64 b.op.fm, .int .u8 b.op.al, .int .u32 b.op.ac, .int .u8 b.op.ak, .int .i64 b.op.an, .int .u8 b.op.tl, .int .u32 b.op.tc, .slice B m d, .int .i64 b.co, .int .i64 b.gr.u, .int .u8 b.gr.l, .int .u32 b.gr.c, .bool b.gr.ok]] w fun e w' => e = .returned (.bool v) ∧ Below w.heap.size w w' := by
  have pp := twoR_new w a A n c b B m d
  have h := hv.out
  clear hv
  rw [sameR] at h
  obtain ⟨q0, h0⟩ : ∃ q, (a.kd == b.kd) = q := ⟨_, rfl⟩
  obtain ⟨q1, h1⟩ : ∃ q, (a.us == b.us) = q := ⟨_, rfl⟩
  obtain ⟨q2, h2⟩ : ∃ q, sameO a.op b.op = q := ⟨_, rfl⟩
  obtain ⟨q3, h3⟩ : ∃ q, (a.co == b.co) = q := ⟨_, rfl⟩
  obtain ⟨q4, h4⟩ : ∃ q, eqG a.gr b.gr = q := ⟨_, rfl⟩
  rw [h0, h1, h2, h3, h4] at h
  have HQ := hid h
  have HO := hid h2
  have E4 : ∀ W, (binOp .eql 38 (.agg #[.int .i64 (a.gr.u), .int .u8 (a.gr.l), .int .u32 (a.gr.c), .bool (a.gr.ok)]) (.agg #[.int .i64 (b.gr.u), .int .u8 (b.gr.l), .int .u32 (b.gr.c), .bool (b.gr.ok)])).run Tryz.prog W = .ok (.bool q4) W := fun W => by rw [← h4]; exact eql_grant W _ _ _ _ _ _ _ _
  clear h h2 h4
  have hra := hid (hr.keep pp.be)
  have hrb := hid (hs.keep pp.be)
  clear hr hs
  go_enter Tryz.func23, Tryz.ntmps23
  go_wp2_with (first
    | (refine wpList_load_ro rfl (.tmp 18) rfl w.heap.size rfl pp.xa ?_)
    | (refine wpList_load_ro rfl (.tmp 20) rfl (w.heap.size + 1) rfl pp.xb ?_)
    | (go_at_call 50; refine (rsame_of q2 a.op A n c hn b.op B m d hm HO _ hra.out hrb.out).mono ?_; rintro e w1 ⟨rfl, b1⟩; have xa1 := pp.xa.keep b1; have xb1 := pp.xb.keep b1; have ca := xa1.co; have cb := xb1.co; replace b1 := below_in pp.be b1; clear pp)
    | (refine wpList_load_rg rfl (.tmp 32) rfl w.heap.size rfl xa1 ?_)
    | (refine wpList_load_rg rfl (.tmp 34) rfl (w.heap.size + 1) rfl xb1 ?_))
  all_goals
    go_ret
    refine ⟨ret_bool ?_, by first | exact b1 | exact pp.be⟩
    clear E4
    simp [← HQ.out, *]
end Go.Proofs.YtndmblhkmgnpcaaGreat
