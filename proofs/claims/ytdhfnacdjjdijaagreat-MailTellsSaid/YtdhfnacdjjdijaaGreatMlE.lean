/-
  What mail of a kind has beside its kind: the closures that tell it, and whether it may be.
-/
import Derived.Test.YtdhfnacdjjdijaaGreatMlD
namespace Go.Proofs.YtdhfnacdjjdijaaGreat
open Go.RowKit
set_option linter.unusedVariables false
set_option linter.unusedSimpArgs false

/-- The two boxes that such a closure begins with. -/
structure PairM (w W : World) (m : Mld) (A : Option Addr) (n c : Nat) : Prop where
  bx : BoxM W w.heap.size m A n c
  tx : ThereM W w.heap.size
  ty : ThereM W (w.heap.size + 1)
  be : Below w.heap.size w W
  sz : W.heap.size = w.heap.size + 2
theorem pairM_new (w : World) (m : Mld) (A : Option Addr) (n c : Nat) (Z : Array Value) (hZ : Z.size = 12) : PairM w ((w.alloc (.cells (#[.int .u8 m.kd, .int .i64 m.us, .int .i64 m.se, .int .i64 m.co, .int .i64 m.fr, .int .i64 m.tt, .int .u8 m.ak, .int .i64 m.t0, .int .i64 m.t1, .int .i64 m.t2, .int .i64 m.t3, .slice A n c]) 27)).alloc (.cells Z 27)) m A n c := by
  have e1 : (w.alloc (.cells (#[.int .u8 m.kd, .int .i64 m.us, .int .i64 m.se, .int .i64 m.co, .int .i64 m.fr, .int .i64 m.tt, .int .u8 m.ak, .int .i64 m.t0, .int .i64 m.t1, .int .i64 m.t2, .int .i64 m.t3, .slice A n c]) 27)).heap.size = w.heap.size + 1 := by simp [go_sem]
  have hb : ∀ (W : World) (x : Obj), Below W.heap.size W (W.alloc x) := fun W x => (Below.refl _ _).alloc (Nat.le_refl _) _
  have ty := thereM_new (w.alloc (.cells (#[.int .u8 m.kd, .int .i64 m.us, .int .i64 m.se, .int .i64 m.co, .int .i64 m.fr, .int .i64 m.tt, .int .u8 m.ak, .int .i64 m.t0, .int .i64 m.t1, .int .i64 m.t2, .int .i64 m.t3, .slice A n c]) 27)) Z hZ 27
  rw [e1] at ty
  exact ⟨(boxM_new w m A n c _).keep (hb _ _), (thereM_new w _ rfl _).keep (hb _ _), ty, (hb w _).trans ((hb _ _).mono (by rw [e1]; omega)), by simp [go_sem]⟩

set_option maxRecDepth 100000 in
set_option maxHeartbeats 800000 in
theorem only_open (m : Mld) (A : Option Addr) (n c : Nat) (w : World) :
    Calls Tryz.prog 59 #[.agg #[.int .u8 m.kd, .int .i64 m.us, .int .i64 m.se, .int .i64 m.co, .int .i64 m.fr, .int .i64 m.tt, .int .u8 m.ak, .int .i64 m.t0, .int .i64 m.t1, .int .i64 m.t2, .int .i64 m.t3, .slice A n c]] w fun e w' => e = .returned (.agg #[.int .u8 0, .int .i64 (m.us), .int .i64 0, .int .i64 0, .int .i64 0, .int .i64 0, .int .u8 0, .int .i64 0, .int .i64 0, .int .i64 0, .int .i64 0, .slice none 0 0]) ∧ Below w.heap.size w w' := by
  have pp := pairM_new w m A n c (#[.int .u8 0, .int .i64 0, .int .i64 0, .int .i64 0, .int .i64 0, .int .i64 0, .int .u8 0, .int .i64 0, .int .i64 0, .int .i64 0, .int .i64 0, .slice none 0 0]) rfl
  go_enter Tryz.func59, Tryz.ntmps59
  go_wp2_with (refine wpList_store_m rfl (.tmp 2) (.tmp 5) rfl (w.heap.size + 1) rfl ⟨0, m.us, 0, 0, 0, 0, 0, 0, 0, 0, 0, []⟩ none 0 0 rfl pp.ty (w.heap.size + 1) (Nat.le_refl _) ?_; intro w4 bx4 th4 b4 hh4 sz4)
  exact bodyPost_ret (results_m rfl rfl bx4) rfl ⟨rfl, pp.be.trans (b4.mono (by omega))⟩

set_option maxRecDepth 100000 in
set_option maxHeartbeats 800000 in
theorem only_submit (m : Mld) (A : Option Addr) (n c : Nat) (w : World) :
    Calls Tryz.prog 65 #[.agg #[.int .u8 m.kd, .int .i64 m.us, .int .i64 m.se, .int .i64 m.co, .int .i64 m.fr, .int .i64 m.tt, .int .u8 m.ak, .int .i64 m.t0, .int .i64 m.t1, .int .i64 m.t2, .int .i64 m.t3, .slice A n c]] w fun e w' => e = .returned (.agg #[.int .u8 0, .int .i64 0, .int .i64 0, .int .i64 0, .int .i64 0, .int .i64 0, .int .u8 0, .int .i64 0, .int .i64 0, .int .i64 0, .int .i64 0, .slice A n c]) ∧ Below w.heap.size w w' := by
  have pp := pairM_new w m A n c (#[.int .u8 0, .int .i64 0, .int .i64 0, .int .i64 0, .int .i64 0, .int .i64 0, .int .u8 0, .int .i64 0, .int .i64 0, .int .i64 0, .int .i64 0, .slice none 0 0]) rfl
  go_enter Tryz.func65, Tryz.ntmps65
  go_wp2_with (refine wpList_store_m rfl (.tmp 2) (.tmp 5) rfl (w.heap.size + 1) rfl ⟨0, 0, 0, 0, 0, 0, 0, 0, 0, 0, 0, m.ops⟩ A n c rfl pp.ty (w.heap.size + 1) (Nat.le_refl _) ?_; intro w4 bx4 th4 b4 hh4 sz4)
  exact bodyPost_ret (results_m rfl rfl bx4) rfl ⟨rfl, pp.be.trans (b4.mono (by omega))⟩

set_option maxRecDepth 100000 in
set_option maxHeartbeats 800000 in
theorem only_pull (m : Mld) (A : Option Addr) (n c : Nat) (w : World) :
    Calls Tryz.prog 73 #[.agg #[.int .u8 m.kd, .int .i64 m.us, .int .i64 m.se, .int .i64 m.co, .int .i64 m.fr, .int .i64 m.tt, .int .u8 m.ak, .int .i64 m.t0, .int .i64 m.t1, .int .i64 m.t2, .int .i64 m.t3, .slice A n c]] w fun e w' => e = .returned (.agg #[.int .u8 0, .int .i64 0, .int .i64 0, .int .i64 0, .int .i64 (m.fr), .int .i64 0, .int .u8 0, .int .i64 0, .int .i64 0, .int .i64 0, .int .i64 0, .slice none 0 0]) ∧ Below w.heap.size w w' := by
  have pp := pairM_new w m A n c (#[.int .u8 0, .int .i64 0, .int .i64 0, .int .i64 0, .int .i64 0, .int .i64 0, .int .u8 0, .int .i64 0, .int .i64 0, .int .i64 0, .int .i64 0, .slice none 0 0]) rfl
  go_enter Tryz.func73, Tryz.ntmps73
  go_wp2_with (refine wpList_store_m rfl (.tmp 2) (.tmp 5) rfl (w.heap.size + 1) rfl ⟨0, 0, 0, 0, m.fr, 0, 0, 0, 0, 0, 0, []⟩ none 0 0 rfl pp.ty (w.heap.size + 1) (Nat.le_refl _) ?_; intro w4 bx4 th4 b4 hh4 sz4)
  exact bodyPost_ret (results_m rfl rfl bx4) rfl ⟨rfl, pp.be.trans (b4.mono (by omega))⟩

set_option maxRecDepth 100000 in
set_option maxHeartbeats 800000 in
theorem only_ask (m : Mld) (A : Option Addr) (n c : Nat) (w : World) :
    Calls Tryz.prog 78 #[.agg #[.int .u8 m.kd, .int .i64 m.us, .int .i64 m.se, .int .i64 m.co, .int .i64 m.fr, .int .i64 m.tt, .int .u8 m.ak, .int .i64 m.t0, .int .i64 m.t1, .int .i64 m.t2, .int .i64 m.t3, .slice A n c]] w fun e w' => e = .returned (.agg #[.int .u8 0, .int .i64 0, .int .i64 0, .int .i64 0, .int .i64 0, .int .i64 0, .int .u8 (m.ak), .int .i64 0, .int .i64 0, .int .i64 0, .int .i64 0, .slice none 0 0]) ∧ Below w.heap.size w w' := by
  have pp := pairM_new w m A n c (#[.int .u8 0, .int .i64 0, .int .i64 0, .int .i64 0, .int .i64 0, .int .i64 0, .int .u8 0, .int .i64 0, .int .i64 0, .int .i64 0, .int .i64 0, .slice none 0 0]) rfl
  go_enter Tryz.func78, Tryz.ntmps78
  go_wp2_with (refine wpList_store_m rfl (.tmp 2) (.tmp 5) rfl (w.heap.size + 1) rfl ⟨0, 0, 0, 0, 0, 0, m.ak, 0, 0, 0, 0, []⟩ none 0 0 rfl pp.ty (w.heap.size + 1) (Nat.le_refl _) ?_; intro w4 bx4 th4 b4 hh4 sz4)
  exact bodyPost_ret (results_m rfl rfl bx4) rfl ⟨rfl, pp.be.trans (b4.mono (by omega))⟩

set_option maxRecDepth 100000 in
set_option maxHeartbeats 800000 in
theorem only_bare (m : Mld) (A : Option Addr) (n c : Nat) (w : World) :
    Calls Tryz.prog 83 #[.agg #[.int .u8 m.kd, .int .i64 m.us, .int .i64 m.se, .int .i64 m.co, .int .i64 m.fr, .int .i64 m.tt, .int .u8 m.ak, .int .i64 m.t0, .int .i64 m.t1, .int .i64 m.t2, .int .i64 m.t3, .slice A n c]] w fun e w' => e = .returned (.agg #[.int .u8 0, .int .i64 0, .int .i64 0, .int .i64 0, .int .i64 0, .int .i64 0, .int .u8 0, .int .i64 0, .int .i64 0, .int .i64 0, .int .i64 0, .slice none 0 0]) ∧ Below w.heap.size w w' := by
  have pp := pairM_new w m A n c (#[.int .u8 0, .int .i64 0, .int .i64 0, .int .i64 0, .int .i64 0, .int .i64 0, .int .u8 0, .int .i64 0, .int .i64 0, .int .i64 0, .int .i64 0, .slice none 0 0]) rfl
  go_enter Tryz.func83, Tryz.ntmps83
  go_wp2_with (refine wpList_store_m rfl (.tmp 2) (.tmp 3) rfl (w.heap.size + 1) rfl ⟨0, 0, 0, 0, 0, 0, 0, 0, 0, 0, 0, []⟩ none 0 0 rfl pp.ty (w.heap.size + 1) (Nat.le_refl _) ?_; intro w4 bx4 th4 b4 hh4 sz4)
  exact bodyPost_ret (results_m rfl rfl bx4) rfl ⟨rfl, pp.be.trans (b4.mono (by omega))⟩

set_option maxRecDepth 100000 in
set_option maxHeartbeats 800000 in
theorem only_coded (m : Mld) (A : Option Addr) (n c : Nat) (w : World) :
    Calls Tryz.prog 87 #[.agg #[.int .u8 m.kd, .int .i64 m.us, .int .i64 m.se, .int .i64 m.co, .int .i64 m.fr, .int .i64 m.tt, .int .u8 m.ak, .int .i64 m.t0, .int .i64 m.t1, .int .i64 m.t2, .int .i64 m.t3, .slice A n c]] w fun e w' => e = .returned (.agg #[.int .u8 0, .int .i64 0, .int .i64 0, .int .i64 (m.co), .int .i64 0, .int .i64 0, .int .u8 0, .int .i64 0, .int .i64 0, .int .i64 0, .int .i64 0, .slice none 0 0]) ∧ Below w.heap.size w w' := by
  have pp := pairM_new w m A n c (#[.int .u8 0, .int .i64 0, .int .i64 0, .int .i64 0, .int .i64 0, .int .i64 0, .int .u8 0, .int .i64 0, .int .i64 0, .int .i64 0, .int .i64 0, .slice none 0 0]) rfl
  go_enter Tryz.func87, Tryz.ntmps87
  go_wp2_with (refine wpList_store_m rfl (.tmp 2) (.tmp 5) rfl (w.heap.size + 1) rfl ⟨0, 0, 0, m.co, 0, 0, 0, 0, 0, 0, 0, []⟩ none 0 0 rfl pp.ty (w.heap.size + 1) (Nat.le_refl _) ?_; intro w4 bx4 th4 b4 hh4 sz4)
  exact bodyPost_ret (results_m rfl rfl bx4) rfl ⟨rfl, pp.be.trans (b4.mono (by omega))⟩

set_option maxRecDepth 100000 in
set_option maxHeartbeats 800000 in
theorem only_answer (m : Mld) (A : Option Addr) (n c : Nat) (w : World) :
    Calls Tryz.prog 93 #[.agg #[.int .u8 m.kd, .int .i64 m.us, .int .i64 m.se, .int .i64 m.co, .int .i64 m.fr, .int .i64 m.tt, .int .u8 m.ak, .int .i64 m.t0, .int .i64 m.t1, .int .i64 m.t2, .int .i64 m.t3, .slice A n c]] w fun e w' => e = .returned (.agg #[.int .u8 0, .int .i64 0, .int .i64 (m.se), .int .i64 (m.co), .int .i64 0, .int .i64 0, .int .u8 0, .int .i64 0, .int .i64 0, .int .i64 0, .int .i64 0, .slice none 0 0]) ∧ Below w.heap.size w w' := by
  have pp := pairM_new w m A n c (#[.int .u8 0, .int .i64 0, .int .i64 0, .int .i64 0, .int .i64 0, .int .i64 0, .int .u8 0, .int .i64 0, .int .i64 0, .int .i64 0, .int .i64 0, .slice none 0 0]) rfl
  go_enter Tryz.func93, Tryz.ntmps93
  go_wp2_with (refine wpList_store_m rfl (.tmp 2) (.tmp 7) rfl (w.heap.size + 1) rfl ⟨0, 0, m.se, m.co, 0, 0, 0, 0, 0, 0, 0, []⟩ none 0 0 rfl pp.ty (w.heap.size + 1) (Nat.le_refl _) ?_; intro w4 bx4 th4 b4 hh4 sz4)
  exact bodyPost_ret (results_m rfl rfl bx4) rfl ⟨rfl, pp.be.trans (b4.mono (by omega))⟩

set_option maxRecDepth 100000 in
set_option maxHeartbeats 800000 in
theorem only_page (m : Mld) (A : Option Addr) (n c : Nat) (w : World) :
    Calls Tryz.prog 97 #[.agg #[.int .u8 m.kd, .int .i64 m.us, .int .i64 m.se, .int .i64 m.co, .int .i64 m.fr, .int .i64 m.tt, .int .u8 m.ak, .int .i64 m.t0, .int .i64 m.t1, .int .i64 m.t2, .int .i64 m.t3, .slice A n c]] w fun e w' => e = .returned (.agg #[.int .u8 0, .int .i64 0, .int .i64 0, .int .i64 0, .int .i64 (m.fr), .int .i64 (m.tt), .int .u8 0, .int .i64 0, .int .i64 0, .int .i64 0, .int .i64 0, .slice A n c]) ∧ Below w.heap.size w w' := by
  have pp := pairM_new w m A n c (#[.int .u8 0, .int .i64 0, .int .i64 0, .int .i64 0, .int .i64 0, .int .i64 0, .int .u8 0, .int .i64 0, .int .i64 0, .int .i64 0, .int .i64 0, .slice none 0 0]) rfl
  go_enter Tryz.func97, Tryz.ntmps97
  go_wp2_with (refine wpList_store_m rfl (.tmp 2) (.tmp 9) rfl (w.heap.size + 1) rfl ⟨0, 0, 0, 0, m.fr, m.tt, 0, 0, 0, 0, 0, m.ops⟩ A n c rfl pp.ty (w.heap.size + 1) (Nat.le_refl _) ?_; intro w4 bx4 th4 b4 hh4 sz4)
  exact bodyPost_ret (results_m rfl rfl bx4) rfl ⟨rfl, pp.be.trans (b4.mono (by omega))⟩

set_option maxRecDepth 100000 in
set_option maxHeartbeats 800000 in
theorem only_told (m : Mld) (A : Option Addr) (n c : Nat) (w : World) :
    Calls Tryz.prog 102 #[.agg #[.int .u8 m.kd, .int .i64 m.us, .int .i64 m.se, .int .i64 m.co, .int .i64 m.fr, .int .i64 m.tt, .int .u8 m.ak, .int .i64 m.t0, .int .i64 m.t1, .int .i64 m.t2, .int .i64 m.t3, .slice A n c]] w fun e w' => e = .returned (.agg #[.int .u8 0, .int .i64 0, .int .i64 0, .int .i64 0, .int .i64 0, .int .i64 0, .int .u8 (m.ak), .int .i64 (m.t0), .int .i64 (m.t1), .int .i64 (m.t2), .int .i64 (m.t3), .slice none 0 0]) ∧ Below w.heap.size w w' := by
  have pp := pairM_new w m A n c (#[.int .u8 0, .int .i64 0, .int .i64 0, .int .i64 0, .int .i64 0, .int .i64 0, .int .u8 0, .int .i64 0, .int .i64 0, .int .i64 0, .int .i64 0, .slice none 0 0]) rfl
  go_enter Tryz.func102, Tryz.ntmps102
  go_wp2_with (first
    | (refine wpList_load_t rfl (.tmp 5) rfl w.heap.size rfl pp.bx ?_)
    | (refine wpList_store_m rfl (.tmp 2) (.tmp 7) rfl (w.heap.size + 1) rfl ⟨0, 0, 0, 0, 0, 0, m.ak, m.t0, m.t1, m.t2, m.t3, []⟩ none 0 0 rfl pp.ty (w.heap.size + 1) (Nat.le_refl _) ?_; intro w4 bx4 th4 b4 hh4 sz4))
  exact bodyPost_ret (results_m rfl rfl bx4) rfl ⟨rfl, pp.be.trans (b4.mono (by omega))⟩

end Go.Proofs.YtdhfnacdjjdijaaGreat
