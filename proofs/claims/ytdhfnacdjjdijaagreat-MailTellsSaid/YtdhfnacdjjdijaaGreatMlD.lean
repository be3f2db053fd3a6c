/-
  Mail compared: the program's Same of layer 10, and the document's.
-/
import Derived.Test.YtdhfnacdjjdijaaGreatMlC
import Derived.Laws.StructEq
namespace Go.Proofs.YtdhfnacdjjdijaaGreat
open Go.RowKit
set_option linter.unusedVariables false
set_option linter.unusedSimpArgs false

theorem eq_told (w : World) (a b c d a' b' c' d' : Int) : (Op.equalIn 10000 24 (.agg #[.int .i64 a, .int .i64 b, .int .i64 c, .int .i64 d]) (.agg #[.int .i64 a', .int .i64 b', .int .i64 c', .int .i64 d'])).run Tryz.prog w = .ok (a == a' && b == b' && c == c' && d == d') w := by
  have u5 := Tryz.underlying3
  have a5 := Tryz.isAgg3
  have z5 := Tryz.sizeOf3
  rw [show (10000 : Nat) = 9999 + 1 from rfl, Op.equalIn]
  simp only [Sem.run_bind, run_underlying Tryz.underlying24, Result.andThen_ok]
  simp only [Std.Legacy.Range.forIn_eq_forIn_range', Std.Legacy.Range.size, Nat.sub_zero, Nat.add_sub_cancel, Nat.div_one, List.range'_succ, List.range'_zero, List.forIn_cons, List.forIn_nil]
  go_simp
  by_cases h1 : a = a' <;> by_cases h2 : b = b' <;> by_cases h3 : c = c' <;> by_cases h4 : d = d' <;> simp [h1, h2, h3, h4]
theorem eql_told (w : World) (a b c d a' b' c' d' : Int) : (binOp .eql 24 (.agg #[.int .i64 a, .int .i64 b, .int .i64 c, .int .i64 d]) (.agg #[.int .i64 a', .int .i64 b', .int .i64 c', .int .i64 d'])).run Tryz.prog w = .ok (.bool (a == a' && b == b' && c == c' && d == d')) w := by
  rw [run_eql_struct, eq_told]
  rfl

set_option maxRecDepth 100000 in
set_option maxHeartbeats 3200000 in
theorem msame_of (v : Bool) (a : Mld) (A : Option Addr) (n c : Nat) (hn : Hid (a.ops.length = n)) (b : Mld) (B : Option Addr) (m d : Nat) (hm : Hid (b.ops.length = m)) (hv : Hid (sameM a b = v)) (w : World) (hr : RdO w A c a.ops) (hq : RdO w B d b.ops) :
    Calls Tryz.prog 22 #[.agg #[.int .u8 a.kd, .int .i64 a.us, .int .i64 a.se, .int .i64 a.co, .int .i64 a.fr, .int .i64 a.tt, .int .u8 a.ak, .int .i64 a.t0, .int .i64 a.t1, .int .i64 a.t2, .int .i64 a.t3, .slice A n c], .agg #[.int .u8 b.kd, .int .i64 b.us, .int .i64 b.se, .int .i64 b.co, .int .i64 b.fr, .int .i64 b.tt, .int .u8 b.ak, .int .i64 b.t0, .int .i64 b.t1, .int .i64 b.t2, .int .i64 b.t3, .slice B m d]] w fun e w' => e = .returned (.bool v) ∧ Below w.heap.size w w' := by
  have h := hv.out
  clear hv
  rw [sameM] at h
  obtain ⟨q0, h0⟩ : ∃ q, (a.kd == b.kd) = q := ⟨_, rfl⟩
  obtain ⟨q1, h1⟩ : ∃ q, (a.us == b.us) = q := ⟨_, rfl⟩
  obtain ⟨q2, h2⟩ : ∃ q, (a.se == b.se) = q := ⟨_, rfl⟩
  obtain ⟨q3, h3⟩ : ∃ q, (a.co == b.co) = q := ⟨_, rfl⟩
  obtain ⟨q4, h4⟩ : ∃ q, (a.fr == b.fr) = q := ⟨_, rfl⟩
  obtain ⟨q5, h5⟩ : ∃ q, (a.tt == b.tt) = q := ⟨_, rfl⟩
  obtain ⟨q6, h6⟩ : ∃ q, (a.ak == b.ak) = q := ⟨_, rfl⟩
  obtain ⟨q7, h7⟩ : ∃ q, ((a.t0 == b.t0) && (a.t1 == b.t1) && (a.t2 == b.t2) && (a.t3 == b.t3)) = q := ⟨_, rfl⟩
  obtain ⟨q8, h8⟩ : ∃ q, sameOs a.ops b.ops = q := ⟨_, rfl⟩
  rw [h0, h1, h2, h3, h4, h5, h6, h7, h8] at h
  have HQ := hid h
  have HR := hid h8
  have E7 : ∀ W, (binOp .eql 24 (.agg #[.int .i64 a.t0, .int .i64 a.t1, .int .i64 a.t2, .int .i64 a.t3]) (.agg #[.int .i64 b.t0, .int .i64 b.t1, .int .i64 b.t2, .int .i64 b.t3])).run Tryz.prog W = .ok (.bool q7) W := fun W => by rw [← h7]; exact eql_told W _ _ _ _ _ _ _ _
  clear h h7 h8
  have hbW : Below w.heap.size w ((w.alloc (.cells (#[.int .u8 a.kd, .int .i64 a.us, .int .i64 a.se, .int .i64 a.co, .int .i64 a.fr, .int .i64 a.tt, .int .u8 a.ak, .int .i64 a.t0, .int .i64 a.t1, .int .i64 a.t2, .int .i64 a.t3, .slice A n c]) 27)).alloc (.cells (#[.int .u8 b.kd, .int .i64 b.us, .int .i64 b.se, .int .i64 b.co, .int .i64 b.fr, .int .i64 b.tt, .int .u8 b.ak, .int .i64 b.t0, .int .i64 b.t1, .int .i64 b.t2, .int .i64 b.t3, .slice B m d]) 27)) := by go_grown
  have bx := (boxM_new w a A n c 27).keep (past_alloc (o := .cells (#[.int .u8 b.kd, .int .i64 b.us, .int .i64 b.se, .int .i64 b.co, .int .i64 b.fr, .int .i64 b.tt, .int .u8 b.ak, .int .i64 b.t0, .int .i64 b.t1, .int .i64 b.t2, .int .i64 b.t3, .slice B m d]) 27) (Below.refl _ _))
  have by_ := boxM_new (w.alloc (.cells (#[.int .u8 a.kd, .int .i64 a.us, .int .i64 a.se, .int .i64 a.co, .int .i64 a.fr, .int .i64 a.tt, .int .u8 a.ak, .int .i64 a.t0, .int .i64 a.t1, .int .i64 a.t2, .int .i64 a.t3, .slice A n c]) 27)) b B m d 27
  rw [show (w.alloc (.cells (#[.int .u8 a.kd, .int .i64 a.us, .int .i64 a.se, .int .i64 a.co, .int .i64 a.fr, .int .i64 a.tt, .int .u8 a.ak, .int .i64 a.t0, .int .i64 a.t1, .int .i64 a.t2, .int .i64 a.t3, .slice A n c]) 27)).heap.size = w.heap.size + 1 by simp [go_sem]] at by_
  go_enter Tryz.func22, Tryz.ntmps22
  go_wp2_with (first
    | (refine wpList_load_t rfl (.tmp 53) rfl w.heap.size rfl bx ?_)
    | (refine wpList_load_t rfl (.tmp 55) rfl (w.heap.size + 1) rfl by_ ?_)
    | (go_at_call 36; refine (equalO_of q8 A n c a.ops hn B m d b.ops hm HR _ (hr.keep hbW) (hq.keep hbW)).mono ?_; rintro e w1 ⟨rfl, b1⟩; replace b1 := below_in hbW b1))
  all_goals
    go_ret
    refine ⟨ret_bool ?_, by first | exact b1 | exact hbW⟩
    clear E7 hr hq bx by_
    simp [← HQ.out, *]
end Go.Proofs.YtdhfnacdjjdijaaGreat
