/-
  Two operations held against each other: the document's own Same.
-/
import Derived.Test.YtbhglgcnoidddaaOpF
import Derived.Test.YtbhglgcnoidddaaRunD
namespace Go.Proofs.Ytbhglgcnoidddaa
open Go.RowKit
set_option linter.unusedVariables false
set_option linter.unusedSimpArgs false


set_option maxRecDepth 100000 in
set_option maxHeartbeats 1600000 in
theorem rsame_of (v : Bool) (a : Opd) (A : Option Addr) (n c : Nat) (hn : Hid (a.row.length = n)) (b : Opd) (B : Option Addr) (m d : Nat) (hm : Hid (b.row.length = m)) (hv : Hid (sameO a b = v)) (w : World) (hr : Ri w A c a.row) (hq : Ri w B d b.row) :
    Calls Try.prog 20 #[.agg #[.int .u8 a.kd, .int .u8 a.l, .int .u32 a.c, .int .u8 a.k, .int .i64 a.s, .int .u8 a.fl, .int .u32 a.fc, .int .u8 a.fk, .int .i64 a.fn, .int .i64 a.fm, .int .u8 a.al, .int .u32 a.ac, .int .u8 a.ak, .int .i64 a.an, .int .u8 a.tl, .int .u32 a.tc, .slice A n c], .agg #[.int .u8 b.kd, .int .u8 b.l, .int .u32 b.c, .int .u8 b.k, .int .i64 b.s, .int .u8 b.fl, .int .u32 b.fc, .int .u8 b.fk, .int .i64 b.fn, .int .i64 b.fm, .int .u8 b.al, .int .u32 b.ac, .int .u8 b.ak, .int .i64 b.an, .int .u8 b.tl, .int .u32 b.tc, .slice B m d]] w fun e w' => e = .returned (.bool v) ∧ Below w.heap.size w w' := by
  have h := hv.out
  clear hv
  rw [sameO] at h
  obtain ⟨q0, h0⟩ : ∃ q, (a.kd == b.kd) = q := ⟨_, rfl⟩
  obtain ⟨q1, h1⟩ : ∃ q, sameH a.l a.c a.k b.l b.c b.k = q := ⟨_, rfl⟩
  obtain ⟨q2, h2⟩ : ∃ q, (a.s == b.s) = q := ⟨_, rfl⟩
  obtain ⟨q3, h3⟩ : ∃ q, sameS a.fl a.fc a.fk a.fn a.fm b.fl b.fc b.fk b.fn b.fm = q := ⟨_, rfl⟩
  obtain ⟨q4, h4⟩ : ∃ q, sameI a.al a.ac a.ak a.an b.al b.ac b.ak b.an = q := ⟨_, rfl⟩
  obtain ⟨q5, h5⟩ : ∃ q, sameL a.tl a.tc b.tl b.tc = q := ⟨_, rfl⟩
  obtain ⟨q6, h6⟩ : ∃ q, sameRow a.row b.row = q := ⟨_, rfl⟩
  rw [h0, h1, h2, h3, h4, h5, h6] at h
  have HQ := hid h
  have HR := hid h6
  have E1 : ∀ W, (binOp .eql 26 (.agg #[.int .u8 (a.l), .int .u32 (a.c), .int .u8 (a.k)]) (.agg #[.int .u8 (b.l), .int .u32 (b.c), .int .u8 (b.k)])).run Try.prog W = .ok (.bool q1) W := fun W => by rw [← h1]; exact eql_handle W _ _ _ _ _ _
  have E3 : ∀ W, (binOp .eql 32 (.agg #[.int .u8 (a.fl), .int .u32 (a.fc), .int .u8 (a.fk), .int .i64 (a.fn), .int .i64 (a.fm)]) (.agg #[.int .u8 (b.fl), .int .u32 (b.fc), .int .u8 (b.fk), .int .i64 (b.fn), .int .i64 (b.fm)])).run Try.prog W = .ok (.bool q3) W := fun W => by rw [← h3]; exact eql_span W _ _ _ _ _ _ _ _ _ _
  have E4 : ∀ W, (binOp .eql 28 (.agg #[.int .u8 (a.al), .int .u32 (a.ac), .int .u8 (a.ak), .int .i64 (a.an)]) (.agg #[.int .u8 (b.al), .int .u32 (b.ac), .int .u8 (b.ak), .int .i64 (b.an)])).run Try.prog W = .ok (.bool q4) W := fun W => by rw [← h4]; exact eql_id W _ _ _ _ _ _ _ _
  have E5 : ∀ W, (binOp .eql 24 (.agg #[.int .u8 (a.tl), .int .u32 (a.tc)]) (.agg #[.int .u8 (b.tl), .int .u32 (b.tc)])).run Try.prog W = .ok (.bool q5) W := fun W => by rw [← h5]; exact eql_label W _ _ _ _
  clear h h1 h3 h4 h5 h6
  have hbW : Below w.heap.size w ((w.alloc (.cells #[.int .u8 a.kd, .int .u8 a.l, .int .u32 a.c, .int .u8 a.k, .int .i64 a.s, .int .u8 a.fl, .int .u32 a.fc, .int .u8 a.fk, .int .i64 a.fn, .int .i64 a.fm, .int .u8 a.al, .int .u32 a.ac, .int .u8 a.ak, .int .i64 a.an, .int .u8 a.tl, .int .u32 a.tc, .slice A n c] 35)).alloc (.cells #[.int .u8 b.kd, .int .u8 b.l, .int .u32 b.c, .int .u8 b.k, .int .i64 b.s, .int .u8 b.fl, .int .u32 b.fc, .int .u8 b.fk, .int .i64 b.fn, .int .i64 b.fm, .int .u8 b.al, .int .u32 b.ac, .int .u8 b.ak, .int .i64 b.an, .int .u8 b.tl, .int .u32 b.tc, .slice B m d] 35)) := by go_grown
  go_enter Try.func20, Try.ntmps20
  go_wp2_with (go_at_call 38; refine (same_of q6 A n c a.row hn B m d b.row hm HR _ (hr.keep hbW) (hq.keep hbW)).mono ?_; rintro e w1 ⟨rfl, b1⟩; replace b1 := below_in hbW b1)
  all_goals
    go_ret
    refine ⟨ret_bool ?_, by first | exact b1 | exact hbW⟩
    clear E1 E3 E4 E5 hr hq
    simp [← HQ.out, *]
end Go.Proofs.Ytbhglgcnoidddaa
