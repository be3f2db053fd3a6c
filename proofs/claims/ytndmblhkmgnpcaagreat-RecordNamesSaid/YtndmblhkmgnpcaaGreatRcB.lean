/-
  The document's own answers of layer 11: May, Check.
-/
import Derived.Test.YtndmblhkmgnpcaaGreatRcA
import Derived.Test.YtndmblhkmgnpcaaGreatOG
import Derived.Test.YtndmblhkmgnpcaaGreatGB
namespace Go.Proofs.YtndmblhkmgnpcaaGreat
open Go.RowKit
set_option linter.unusedVariables false
set_option linter.unusedSimpArgs false

set_option maxRecDepth 100000 in
set_option maxHeartbeats 3200000 in
theorem rcmay_1 (q : Bool) (r : Rec) (A : Option Addr) (n c : Nat) (hn : Hid (r.op.row.length = n)) (hmr : Recr r) (k1 : r.kd = 1) (hq : Hid (mayR r = q)) (w : World) (hr : Ri w A c r.op.row) :
    Calls Tryz.prog 42 #[.agg #[.int .u8 r.kd, .int .i64 r.us, .int .u8 r.op.kd, .int .u8 r.op.l, .int .u32 r.op.c, .int .u8 r.op.k, .int .i64 r.op.s, .int .u8 r.op.fl, .int .u32 r.op.fc, .int .u8 r.op.fk, .int .i64 r.op.fn, .int .i64 r.op.fm, .int .u8 r.op.al, .int .u32 r.op.ac, .int .u8 r.op.ak, .int .i64 r.op.an, .int .u8 r.op.tl, .int .u32 r.op.tc, .slice A n c, .int .i64 r.co, .int .i64 r.gr.u, .int .u8 r.gr.l, .int .u32 r.gr.c, .bool r.gr.ok]] w fun e w' => e = .returned (.bool q) ∧ Below w.heap.size w w' := by
  have h := hq.out
  clear hq hmr
  rw [mayR, if_pos k1] at h
  have d1 : (r.kd == 1) = true := by simpa using k1
  clear k1
  obtain ⟨q0, h0⟩ : ∃ q, noneO r.op = q := ⟨_, rfl⟩
  obtain ⟨q1, h1⟩ : ∃ q, mayH r.op.l r.op.k = q := ⟨_, rfl⟩
  obtain ⟨q2, h2⟩ : ∃ q, decide (0 ≤ r.us) = q := ⟨_, rfl⟩
  obtain ⟨q3, h3⟩ : ∃ q, decide (r.us ≤ 255) = q := ⟨_, rfl⟩
  obtain ⟨q4, h4⟩ : ∃ q, decide (r.co = 0) = q := ⟨_, rfl⟩
  obtain ⟨q5, h5⟩ : ∃ q, eqG r.gr zG = q := ⟨_, rfl⟩
  rw [h0, h1, h2, h3, h4, h5] at h
  have h4' : (r.co == 0) = q4 := by rw [← h4]; rfl
  have HQ := hid h
  have H0 := hid h0
  have H1 := hid h1
  have E5 : ∀ W, (binOp .eql 38 (.agg #[.int .i64 (r.gr.u), .int .u8 (r.gr.l), .int .u32 (r.gr.c), .bool (r.gr.ok)]) (.agg #[.int .i64 0, .int .u8 0, .int .u32 0, .bool false])).run Tryz.prog W = .ok (.bool q5) W := fun W => by rw [← h5]; exact eql_grant W _ _ _ _ _ _ _ _
  have xa := boxR_new w r A n c 40
  have hb := below1 w (.cells (#[.int .u8 r.kd, .int .i64 r.us, .int .u8 r.op.kd, .int .u8 r.op.l, .int .u32 r.op.c, .int .u8 r.op.k, .int .i64 r.op.s, .int .u8 r.op.fl, .int .u32 r.op.fc, .int .u8 r.op.fk, .int .i64 r.op.fn, .int .i64 r.op.fm, .int .u8 r.op.al, .int .u32 r.op.ac, .int .u8 r.op.ak, .int .i64 r.op.an, .int .u8 r.op.tl, .int .u32 r.op.tc, .slice A n c, .int .i64 r.co, .int .i64 r.gr.u, .int .u8 r.gr.l, .int .u32 r.gr.c, .bool r.gr.ok]) 40)
  have HR := hid (hr.keep hb)
  clear h h0 h1 h5 hr
  go_enter Tryz.func42, Tryz.ntmps42
  go_wp2_with (first
    | (refine wpList_load_ro rfl (.tmp 6) rfl w.heap.size rfl xa ?_)
    | (go_at_call 64; refine (rnone_of q0 r.op A n c hn H0 _ HR.out).mono ?_; rintro e w1 ⟨rfl, b1⟩; have xa1 := xa.keep b1; have hb1 := below_in hb b1; clear xa b1)
    | (refine wpList_load_rh rfl (.tmp 11) rfl w.heap.size rfl xa1 ?_)
    | (go_at_call 65; refine (mayH_of q1 r.op.l r.op.c r.op.k H1 _).mono ?_; rintro e w2 ⟨rfl, b2⟩; have xa2 := xa1.keep b2; have hb2 := below_in hb1 b2; have cu := xa2.u; have cc := xa2.co; clear xa1 b2)
    | (refine wpList_load_rg rfl (.tmp 31) rfl w.heap.size rfl xa2 ?_))
  all_goals
    go_ret
    refine ⟨ret_bool ?_, by first | exact hb2 | exact hb1⟩
    clear E5
    simp [← HQ.out, *]

set_option maxRecDepth 100000 in
set_option maxHeartbeats 3200000 in
theorem rcmay_2 (q : Bool) (r : Rec) (A : Option Addr) (n c : Nat) (hn : Hid (r.op.row.length = n)) (hmr : Recr r) (k1 : ¬ r.kd = 1) (k2 : r.kd = 2) (u0 : r.us = 0) (hq : Hid (mayR r = q)) (w : World) (hr : Ri w A c r.op.row) :
    Calls Tryz.prog 42 #[.agg #[.int .u8 r.kd, .int .i64 r.us, .int .u8 r.op.kd, .int .u8 r.op.l, .int .u32 r.op.c, .int .u8 r.op.k, .int .i64 r.op.s, .int .u8 r.op.fl, .int .u32 r.op.fc, .int .u8 r.op.fk, .int .i64 r.op.fn, .int .i64 r.op.fm, .int .u8 r.op.al, .int .u32 r.op.ac, .int .u8 r.op.ak, .int .i64 r.op.an, .int .u8 r.op.tl, .int .u32 r.op.tc, .slice A n c, .int .i64 r.co, .int .i64 r.gr.u, .int .u8 r.gr.l, .int .u32 r.gr.c, .bool r.gr.ok]] w fun e w' => e = .returned (.bool q) ∧ Below w.heap.size w w' := by
  have h := hq.out
  have hm0 : -9223372036854775808 ≤ r.op.fm := hmr.op.spn.m64.1
  clear hq hmr
  rw [mayR, if_neg k1, if_pos u0, if_pos k2] at h
  have d1 : (r.kd == 1) = false := by simpa using k1
  have d2 : (r.kd == 2) = true := by simpa using k2
  have d3 : (r.us == 0) = true := by simpa using u0
  clear k1 k2 u0
  obtain ⟨q0, h0⟩ : ∃ q, mayO r.op = q := ⟨_, rfl⟩
  obtain ⟨q1, h1⟩ : ∃ q, plB r.op.row = q := ⟨_, rfl⟩
  obtain ⟨q2, h2⟩ : ∃ q, decide (0 ≤ r.co) = q := ⟨_, rfl⟩
  obtain ⟨q3, h3⟩ : ∃ q, decide (r.co < 65536) = q := ⟨_, rfl⟩
  obtain ⟨q5, h5⟩ : ∃ q, eqG r.gr zG = q := ⟨_, rfl⟩
  rw [h0, h1, h2, h3, h5] at h
  have HQ := hid h
  have H0 := hid h0
  have H1 := hid h1
  have E5 : ∀ W, (binOp .eql 38 (.agg #[.int .i64 (r.gr.u), .int .u8 (r.gr.l), .int .u32 (r.gr.c), .bool (r.gr.ok)]) (.agg #[.int .i64 0, .int .u8 0, .int .u32 0, .bool false])).run Tryz.prog W = .ok (.bool q5) W := fun W => by rw [← h5]; exact eql_grant W _ _ _ _ _ _ _ _
  have xa := boxR_new w r A n c 40
  have hb := below1 w (.cells (#[.int .u8 r.kd, .int .i64 r.us, .int .u8 r.op.kd, .int .u8 r.op.l, .int .u32 r.op.c, .int .u8 r.op.k, .int .i64 r.op.s, .int .u8 r.op.fl, .int .u32 r.op.fc, .int .u8 r.op.fk, .int .i64 r.op.fn, .int .i64 r.op.fm, .int .u8 r.op.al, .int .u32 r.op.ac, .int .u8 r.op.ak, .int .i64 r.op.an, .int .u8 r.op.tl, .int .u32 r.op.tc, .slice A n c, .int .i64 r.co, .int .i64 r.gr.u, .int .u8 r.gr.l, .int .u32 r.gr.c, .bool r.gr.ok]) 40)
  have HR := hid (hr.keep hb)
  clear h h0 h1 h5 hr
  go_enter Tryz.func42, Tryz.ntmps42
  go_wp2_with (first
    | (refine wpList_load_ro rfl (.tmp 42) rfl w.heap.size rfl xa ?_)
    | (go_at_call 66; refine (rmay_of q0 r.op A n c hn H0 hm0 _ HR.out).mono ?_; rintro e w1 ⟨rfl, b1⟩; have xa1 := xa.keep b1; have HR1 := hid (HR.out.keep b1); have hb1 := below_in hb b1; clear xa b1)
    | (refine wpList_load_ro rfl (.tmp 46) rfl w.heap.size rfl xa1 ?_)
    | (go_at_call 67; refine (rplain_of q1 r.op A n c hn H1 _ HR1.out).mono ?_; rintro e w2 ⟨rfl, b2⟩; have xa2 := xa1.keep b2; have hb2 := below_in hb1 b2; have cc := xa2.co; clear xa1 b2)
    | (refine wpList_load_rg rfl (.tmp 61) rfl w.heap.size rfl xa2 ?_))
  all_goals
    go_ret
    refine ⟨ret_bool ?_, by first | exact hb2 | exact hb1⟩
    clear E5
    simp [← HQ.out, *]

set_option maxRecDepth 100000 in
set_option maxHeartbeats 3200000 in
theorem rcmay_3 (q : Bool) (r : Rec) (A : Option Addr) (n c : Nat) (hn : Hid (r.op.row.length = n)) (hmr : Recr r) (k1 : ¬ r.kd = 1) (hz : r.us ≠ 0 ∨ r.kd ≠ 2) (hq : Hid (mayR r = q)) (w : World) (hr : Ri w A c r.op.row) :
    Calls Tryz.prog 42 #[.agg #[.int .u8 r.kd, .int .i64 r.us, .int .u8 r.op.kd, .int .u8 r.op.l, .int .u32 r.op.c, .int .u8 r.op.k, .int .i64 r.op.s, .int .u8 r.op.fl, .int .u32 r.op.fc, .int .u8 r.op.fk, .int .i64 r.op.fn, .int .i64 r.op.fm, .int .u8 r.op.al, .int .u32 r.op.ac, .int .u8 r.op.ak, .int .i64 r.op.an, .int .u8 r.op.tl, .int .u32 r.op.tc, .slice A n c, .int .i64 r.co, .int .i64 r.gr.u, .int .u8 r.gr.l, .int .u32 r.gr.c, .bool r.gr.ok]] w fun e w' => e = .returned (.bool q) ∧ Below w.heap.size w w' := by
  have h := hq.out
  clear hq hmr
  have d1 : (r.kd == 1) = false := by simpa using k1
  have xa := boxR_new w r A n c 40
  have hb := below1 w (.cells (#[.int .u8 r.kd, .int .i64 r.us, .int .u8 r.op.kd, .int .u8 r.op.l, .int .u32 r.op.c, .int .u8 r.op.k, .int .i64 r.op.s, .int .u8 r.op.fl, .int .u32 r.op.fc, .int .u8 r.op.fk, .int .i64 r.op.fn, .int .i64 r.op.fm, .int .u8 r.op.al, .int .u32 r.op.ac, .int .u8 r.op.ak, .int .i64 r.op.an, .int .u8 r.op.tl, .int .u32 r.op.tc, .slice A n c, .int .i64 r.co, .int .i64 r.gr.u, .int .u8 r.gr.l, .int .u32 r.gr.c, .bool r.gr.ok]) 40)
  by_cases u0 : r.us = 0
  · have k2 : ¬ r.kd = 2 := hz.resolve_left (fun h => h u0)
    rw [mayR, if_neg k1, if_pos u0, if_neg k2] at h
    have d2 : (r.kd == 2) = false := by simpa using k2
    have d3 : (r.us == 0) = true := by simpa using u0
    clear k1 k2 u0 hz
    obtain ⟨q0, h0⟩ : ∃ q, decide (r.kd = 3) = q := ⟨_, rfl⟩
    obtain ⟨q1, h1⟩ : ∃ q, sameO r.op zO = q := ⟨_, rfl⟩
    obtain ⟨q2, h2⟩ : ∃ q, decide (r.co = 0) = q := ⟨_, rfl⟩
    obtain ⟨q3, h3⟩ : ∃ q, mayG r.gr = q := ⟨_, rfl⟩
    rw [h0, h1, h2, h3] at h
    have h0' : (r.kd == 3) = q0 := by rw [← h0]; rfl
    have h2' : (r.co == 0) = q2 := by rw [← h2]; rfl
    have HQ := hid h
    have H1 := hid h1
    have H3 := hid h3
    have HR := hid (hr.keep hb)
    clear h h1 h3 hr
    go_enter Tryz.func42, Tryz.ntmps42
    go_wp2_with (first
      | (refine wpList_load_ro rfl (.tmp 70) rfl w.heap.size rfl xa ?_)
      | (go_at_call 50; refine (rsame_of q1 r.op A n c hn zO none 0 0 (hid rfl) H1 _ HR.out (Ri.nil _)).mono ?_; rintro e w1 ⟨rfl, b1⟩; have xa1 := xa.keep b1; have hb1 := below_in hb b1; have cc := xa1.co; clear xa b1)
      | (refine wpList_load_rg rfl (.tmp 81) rfl w.heap.size rfl xa1 ?_)
      | (go_at_call 68; refine (rgmay_of q3 r.gr.u r.gr.l r.gr.c r.gr.ok H3 _).mono ?_; rintro e w2 ⟨rfl, b2⟩; have hb2 := below_in hb1 b2; clear xa1 b2))
    all_goals
      go_ret
      refine ⟨ret_bool ?_, by first | exact hb2 | exact hb1 | exact hb⟩
      simp [← HQ.out, *]
  · rw [mayR, if_neg k1, if_neg u0] at h
    have d3 : (r.us == 0) = false := by simpa using u0
    subst h
    clear u0 hz hr xa k1
    go_enter Tryz.func42, Tryz.ntmps42
    go_wp2
    go_ret
    exact ⟨rfl, hb⟩
theorem rcmay_of (q : Bool) (r : Rec) (A : Option Addr) (n c : Nat) (hn : Hid (r.op.row.length = n)) (hmr : Recr r) (hq : Hid (mayR r = q)) (w : World) (hr : Ri w A c r.op.row) :
    Calls Tryz.prog 42 #[.agg #[.int .u8 r.kd, .int .i64 r.us, .int .u8 r.op.kd, .int .u8 r.op.l, .int .u32 r.op.c, .int .u8 r.op.k, .int .i64 r.op.s, .int .u8 r.op.fl, .int .u32 r.op.fc, .int .u8 r.op.fk, .int .i64 r.op.fn, .int .i64 r.op.fm, .int .u8 r.op.al, .int .u32 r.op.ac, .int .u8 r.op.ak, .int .i64 r.op.an, .int .u8 r.op.tl, .int .u32 r.op.tc, .slice A n c, .int .i64 r.co, .int .i64 r.gr.u, .int .u8 r.gr.l, .int .u32 r.gr.c, .bool r.gr.ok]] w fun e w' => e = .returned (.bool q) ∧ Below w.heap.size w w' := by
  by_cases k1 : r.kd = 1
  · exact rcmay_1 q r A n c hn hmr k1 hq w hr
  by_cases u0 : r.us = 0
  · by_cases k2 : r.kd = 2
    · exact rcmay_2 q r A n c hn hmr k1 k2 u0 hq w hr
    · exact rcmay_3 q r A n c hn hmr k1 (.inr k2) hq w hr
  · exact rcmay_3 q r A n c hn hmr k1 (.inl u0) hq w hr

set_option maxRecDepth 100000 in
set_option maxHeartbeats 1600000 in
theorem rccheck_of (j : Int) (r : Rec) (A : Option Addr) (n c : Nat) (hn : Hid (r.op.row.length = n)) (hmr : Recr r) (hj : Hid (er (mayR r) = j)) (w : World) (hr : Ri w A c r.op.row) :
    Calls Tryz.prog 24 #[.agg #[.int .u8 r.kd, .int .i64 r.us, .int .u8 r.op.kd, .int .u8 r.op.l, .int .u32 r.op.c, .int .u8 r.op.k, .int .i64 r.op.s, .int .u8 r.op.fl, .int .u32 r.op.fc, .int .u8 r.op.fk, .int .i64 r.op.fn, .int .i64 r.op.fm, .int .u8 r.op.al, .int .u32 r.op.ac, .int .u8 r.op.ak, .int .i64 r.op.an, .int .u8 r.op.tl, .int .u32 r.op.tc, .slice A n c, .int .i64 r.co, .int .i64 r.gr.u, .int .u8 r.gr.l, .int .u32 r.gr.c, .bool r.gr.ok]] w fun e w' => e = .returned (.int .i64 j) ∧ Below w.heap.size w w' := by
  obtain ⟨q, hq⟩ : ∃ q, mayR r = q := ⟨_, rfl⟩
  have h := hj.out
  rw [hq] at h
  have HQ := hid hq
  have HJ := hid h
  have xa := boxR_new w r A n c 40
  have hb := below1 w (.cells (#[.int .u8 r.kd, .int .i64 r.us, .int .u8 r.op.kd, .int .u8 r.op.l, .int .u32 r.op.c, .int .u8 r.op.k, .int .i64 r.op.s, .int .u8 r.op.fl, .int .u32 r.op.fc, .int .u8 r.op.fk, .int .i64 r.op.fn, .int .i64 r.op.fm, .int .u8 r.op.al, .int .u32 r.op.ac, .int .u8 r.op.ak, .int .i64 r.op.an, .int .u8 r.op.tl, .int .u32 r.op.tc, .slice A n c, .int .i64 r.co, .int .i64 r.gr.u, .int .u8 r.gr.l, .int .u32 r.gr.c, .bool r.gr.ok]) 40)
  clear hj h hq
  go_enter Tryz.func24, Tryz.ntmps24
  go_wp2_with (refine wpList_load_r rfl (.tmp 1) rfl w.heap.size rfl xa ?_)
  refine (rcmay_of q r A n c hn hmr HQ _ (hr.keep hb)).mono ?_
  rintro e w1 ⟨rfl, b1⟩
  have hb1 := below_in hb b1
  clear xa b1
  cases q
  all_goals
    go_wp2
    go_ret
    exact ⟨ret_int (by rw [← HJ.out]; rfl), hb1⟩
end Go.Proofs.YtndmblhkmgnpcaaGreat
