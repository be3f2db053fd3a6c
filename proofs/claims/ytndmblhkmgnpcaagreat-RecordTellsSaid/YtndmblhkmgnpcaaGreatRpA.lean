/-
  The program's own bytes of a record, and their pieces.
-/
import Derived.Test.YtndmblhkmgnpcaaGreatRcB
import Derived.Test.YtndmblhkmgnpcaaGreatGA
import Derived.Deep.RegionHeld
import Derived.Test.YtndmblhkmgnpcaaGreatRcG
import Derived.Test.YtndmblhkmgnpcaaGreatOW
import Derived.Test.YtndmblhkmgnpcaaGreatIQ
namespace Go.Proofs.YtndmblhkmgnpcaaGreat
open Go.RowKit
set_option linter.unusedVariables false
set_option linter.unusedSimpArgs false

set_option maxRecDepth 100000 in
set_option maxHeartbeats 3200000 in
theorem rec_twin_of (r : Rec) (A : Option Addr) (n c : Nat) (hn : Hid (r.op.row.length = n)) (h5 : n ≤ 10000) (w : World) (hr : Ri w A c r.op.row) :
    Calls Tryz.prog 21 #[.agg #[.int .u8 r.kd, .int .i64 r.us, .int .u8 r.op.kd, .int .u8 r.op.l, .int .u32 r.op.c, .int .u8 r.op.k, .int .i64 r.op.s, .int .u8 r.op.fl, .int .u32 r.op.fc, .int .u8 r.op.fk, .int .i64 r.op.fn, .int .i64 r.op.fm, .int .u8 r.op.al, .int .u32 r.op.ac, .int .u8 r.op.ak, .int .i64 r.op.an, .int .u8 r.op.tl, .int .u32 r.op.tc, .slice A n c, .int .i64 r.co, .int .i64 r.gr.u, .int .u8 r.gr.l, .int .u32 r.gr.c, .bool r.gr.ok]] w (RetRT w r n) := by
  have pp : TwoR w ((w.alloc (.cells (#[.int .u8 r.kd, .int .i64 r.us, .int .u8 r.op.kd, .int .u8 r.op.l, .int .u32 r.op.c, .int .u8 r.op.k, .int .i64 r.op.s, .int .u8 r.op.fl, .int .u32 r.op.fc, .int .u8 r.op.fk, .int .i64 r.op.fn, .int .i64 r.op.fm, .int .u8 r.op.al, .int .u32 r.op.ac, .int .u8 r.op.ak, .int .i64 r.op.an, .int .u8 r.op.tl, .int .u32 r.op.tc, .slice A n c, .int .i64 r.co, .int .i64 r.gr.u, .int .u8 r.gr.l, .int .u32 r.gr.c, .bool r.gr.ok]) 40)).alloc (.cells (#[.int .u8 0, .int .i64 0, .int .u8 0, .int .u8 0, .int .u32 0, .int .u8 0, .int .i64 0, .int .u8 0, .int .u32 0, .int .u8 0, .int .i64 0, .int .i64 0, .int .u8 0, .int .u32 0, .int .u8 0, .int .i64 0, .int .u8 0, .int .u32 0, .slice none 0 0, .int .i64 0, .int .i64 0, .int .u8 0, .int .u32 0, .bool false]) 40)) r A n c zR none 0 0 := twoR_new w r A n c zR none 0 0
  go_enter Tryz.func21, Tryz.ntmps21
  have one : True := trivial
  go_wp2_with (clear one; generalize World.alloc (World.alloc w _) _ = W at pp ⊢; refine wpList_load_ro rfl (.tmp 3) rfl w.heap.size rfl pp.xa ?_)
  refine (otwin_any r.op A n c hn h5 _ (hr.keep pp.be)).mono ?_
  rintro e w1 ⟨A1, c1, rfl, ho, b1⟩
  have xa := pp.xa.keep b1
  have ta := pp.ta.keep b1
  have tb := pp.tb.keep b1
  have hb := below_in pp.be b1
  have hz : W.heap.size = w.heap.size + 2 := pp.sz
  have one : True := trivial
  have two : True := trivial
  have three : True := trivial
  go_wp2_with (first
    | (clear one; refine wpList_store_ro rfl (.tmp 6) (.tmp 5) rfl w.heap.size rfl r.op A1 n c1 rfl xa ta w.heap.size (Nat.le_refl _) ?_; intro w2 x2 t2 b2 h2 z2; have tb2 := tb.other h2 (by omega))
    | (clear two; refine wpList_load_r rfl (.tmp 1) rfl w.heap.size rfl x2 ?_)
    | (clear three; refine wpList_store_r rfl (.tmp 2) (.tmp 7) rfl (w.heap.size + 1) rfl r A1 n c1 rfl tb2 w.heap.size (by omega) ?_; intro w3 x3 t3 b3 h3 z3))
  exact bodyPost_ret (results_r rfl rfl x3) rfl ⟨A1, c1, rfl, OwnI.base (by omega) ((ho.other h2 (by omega)).other h3 (by omega)), (hb.trans b2).trans b3⟩

set_option maxRecDepth 100000 in
set_option maxHeartbeats 3200000 in
theorem rec_same_of (v : Bool) (a : Rec) (A : Option Addr) (n c : Nat) (hn : Hid (a.op.row.length = n)) (b : Rec) (B : Option Addr) (m d : Nat) (hm : Hid (b.op.row.length = m)) (hv : Hid (sameR a b = v)) (w : World) (hr : Ri w A c a.op.row) (hs : Ri w B d b.op.row) :
    Calls Tryz.prog 25 #[.agg #[.int .u8 a.kd, .int .i64 a.us, .int .u8 a.op.kd, .int .u8 a.op.l, .int .u32 a.op.c, .int .u8 a.op.k, .int .i64 a.op.s, .int .u8 a.op.fl, .int .u32 a.op.fc, .int .u8 a.op.fk, .int .i64 a.op.fn, .int .i64 a.op.fm, .int .u8 a.op.al, .int .u32 a.op.ac, .int .u8 a.op.ak, .int .i64 a.op.an, .int .u8 a.op.tl, .int .u32 a.op.tc, .slice A n c, .int .i64 a.co, .int .i64 a.gr.u, .int .u8 a.gr.l, .int .u32 a.gr.c, .bool a.gr.ok], .agg #[.int .u8 b.kd, .int .i64 b.us, .int .u8 b.op.kd, .int .u8 b.op.l, .int .u32 b.op.c, .int .u8 b.op.k, .int .i64 b.op.s, .int .u8 b.op.fl, .int .u32 b.op.fc, .int .u8 b.op.fk, .int .i64 b.op.fn, .int .i64 b.op.fm, .int .u8 b.op.al, .int .u32 b.op.ac, .int .u8 b.op.ak, .int .i64 b.op.an, .int .u8 b.op.tl, .int .u32 b.op.tc, .slice B m d, .int .i64 b.co, .int .i64 b.gr.u, .int .u8 b.gr.l, .int .u32 b.gr.c, .bool b.gr.ok]] w fun e w' => e = .returned (.bool v) ∧ Below w.heap.size w w' := by
  have pp := twoR_new w a A n c b B m d
  have h := hv.out
  clear hv
  rw [sameR] at h
  obtain ⟨q0, h0⟩ : ∃ q, (a.kd == b.kd) = q := ⟨_, rfl⟩
  obtain ⟨q1, h1⟩ : ∃ q, (a.us == b.us) = q := ⟨_, rfl⟩
  obtain ⟨q2, h2⟩ : ∃ q, sameO a.op b.op = q := ⟨_, rfl⟩
  obtain ⟨q3, h3⟩ : ∃ q, (a.co == b.co) = q := ⟨_, rfl⟩
  obtain ⟨q4, h4⟩ : ∃ q, eqG a.gr b.gr = q := ⟨_, rfl⟩
  rw [h0, h1, h2, h3, h4] at h
  have HQ := hid h
  have HO := hid h2
  have E4 : ∀ W, (binOp .eql 38 (.agg #[.int .i64 (a.gr.u), .int .u8 (a.gr.l), .int .u32 (a.gr.c), .bool (a.gr.ok)]) (.agg #[.int .i64 (b.gr.u), .int .u8 (b.gr.l), .int .u32 (b.gr.c), .bool (b.gr.ok)])).run Tryz.prog W = .ok (.bool q4) W := fun W => by rw [← h4]; exact eql_grant W _ _ _ _ _ _ _ _
  clear h h2 h4
  have hra := hid (hr.keep pp.be)
  have hrb := hid (hs.keep pp.be)
  clear hr hs
  go_enter Tryz.func25, Tryz.ntmps25
  go_wp2_with (first
    | (refine wpList_load_ro rfl (.tmp 18) rfl w.heap.size rfl pp.xa ?_)
    | (refine wpList_load_ro rfl (.tmp 20) rfl (w.heap.size + 1) rfl pp.xb ?_)
    | (go_at_call 51; refine (osame_of q2 a.op A n c hn b.op B m d hm HO _ hra.out hrb.out).mono ?_; rintro e w1 ⟨rfl, b1⟩; have xa1 := pp.xa.keep b1; have xb1 := pp.xb.keep b1; have ca := xa1.co; have cb := xb1.co; replace b1 := below_in pp.be b1; clear pp)
    | (refine wpList_load_rg rfl (.tmp 32) rfl w.heap.size rfl xa1 ?_)
    | (refine wpList_load_rg rfl (.tmp 34) rfl (w.heap.size + 1) rfl xb1 ?_))
  all_goals
    go_ret
    refine ⟨ret_bool ?_, by first | exact b1 | exact pp.be⟩
    clear E4
    simp [← HQ.out, *]

theorem below_of (x y : Int) (q : Bool) (hq : Hid ((decide (0 ≤ x) && decide (x < y)) = q)) (w : World) :
    Calls Tryz.prog 55 #[.int .i64 x, .int .i64 y] w fun e w' => e = .returned (.bool q) ∧ w = w' := by
  obtain ⟨q0, h0⟩ : ∃ q, decide (0 ≤ x) = q := ⟨_, rfl⟩
  obtain ⟨q1, h1⟩ : ∃ q, decide (x < y) = q := ⟨_, rfl⟩
  have h := hq.out
  rw [h0, h1] at h
  have HQ := hid h
  clear h hq
  go_enter Tryz.func55, Tryz.ntmps55
  go_wp2
  all_goals
    go_ret
    exact ⟨ret_bool (by simp [← HQ.out, *]), rfl⟩

set_option maxRecDepth 100000 in
set_option maxHeartbeats 1600000 in
theorem rheadMay_of (q : Bool) (s n i f : Int) (hq : Hid (mayHd s n i f = q)) (w : World) :
    Calls Tryz.prog 35 #[.agg #[.int .i64 s, .int .i64 n, .int .i64 i, .int .i64 f]] w fun e w' => e = .returned (.bool q) ∧ Below w.heap.size w w' := by
  have h := hq.out
  clear hq
  rw [mayHd] at h
  obtain ⟨q0, h0⟩ : ∃ q, decide (1 ≤ s) = q := ⟨_, rfl⟩
  obtain ⟨q1, h1⟩ : ∃ q, decide (s < 2147483648) = q := ⟨_, rfl⟩
  obtain ⟨q2, h2⟩ : ∃ q, decide (1 ≤ n) = q := ⟨_, rfl⟩
  obtain ⟨q3, h3⟩ : ∃ q, decide (n < 16777216) = q := ⟨_, rfl⟩
  obtain ⟨q4, h4⟩ : ∃ q, decide (1 ≤ f) = q := ⟨_, rfl⟩
  obtain ⟨q5, h5⟩ : ∃ q, decide (f ≤ 4) = q := ⟨_, rfl⟩
  obtain ⟨q6, h6⟩ : ∃ q, (decide (0 ≤ i) && decide (i < f)) = q := ⟨_, rfl⟩
  rw [Bool.and_assoc _ (decide (0 ≤ i)), h0, h1, h2, h3, h4, h5, h6] at h
  have HQ := hid h
  have H6 := hid h6
  have hb := below1 w (.cells (#[.int .i64 s, .int .i64 n, .int .i64 i, .int .i64 f]) 42)
  clear h h6
  go_enter Tryz.func35, Tryz.ntmps35
  go_wp2_with (go_at_call 55; refine (below_of i f q6 H6 _).mono ?_; rintro e w1 ⟨rfl, rfl⟩)
  all_goals
    go_ret
    refine ⟨ret_bool ?_, hb⟩
    simp [← HQ.out, *]

/-! ### Which may be -/
def fitR (r : Rec) : Bool := if r.kd = 1 then mayH r.op.l r.op.k && (decide (0 ≤ r.us) && decide (r.us < 256)) else if r.kd = 2 then mayO r.op && plB r.op.row && (decide (0 ≤ r.co) && decide (r.co < 65536)) else if r.kd = 3 then mayG r.gr else false
def onlyR (r : Rec) : Rec := if r.kd = 1 then ⟨r.kd, r.us, byO r.op.l r.op.c r.op.k, 0, zG⟩ else if r.kd = 2 then ⟨r.kd, 0, r.op, r.co, zG⟩ else if r.kd = 3 then ⟨r.kd, 0, zO, 0, r.gr⟩ else zR
theorem fit_only (r : Rec) : (fitR r && sameR r (onlyR r)) = mayR r := by
  rw [Bool.eq_iff_iff]
  constructor
  · intro h
    rw [Bool.and_eq_true] at h
    obtain ⟨h1, h2⟩ := h
    have e := sameR_eq h2
    unfold fitR at h1
    unfold onlyR at e
    by_cases k1 : r.kd = 1
    · rw [if_pos k1] at h1 e
      simp only [Bool.and_eq_true, decide_eq_true_eq] at h1
      rw [e, k1]
      exact mayR_1 h1.1 h1.2.1 (by omega)
    by_cases k2 : r.kd = 2
    · rw [if_neg k1, if_pos k2] at h1 e
      simp only [Bool.and_eq_true, decide_eq_true_eq] at h1
      rw [e, k2]
      exact mayR_2 h1.1.1 h1.1.2 h1.2.1 h1.2.2
    by_cases k3 : r.kd = 3
    · rw [if_neg k1, if_neg k2, if_pos k3] at h1 e
      rw [e, k3]
      exact mayR_3 h1
    · rw [if_neg k1, if_neg k2, if_neg k3] at h1
      cases h1
  · intro h
    rcases mayR_cases h with ⟨l, c, k, us, rfl, h1, h2, h3⟩ | ⟨o, co, rfl, h1, h2, h3, h4⟩ | ⟨g, rfl, h1⟩
    · have e1 : fitR ⟨1, us, byO l c k, 0, zG⟩ = true := by
        show (mayH l k && (decide (0 ≤ us) && decide (us < 256))) = true
        simp only [Bool.and_eq_true, decide_eq_true_eq]
        exact ⟨h1, h2, by omega⟩
      rw [e1, Bool.true_and]
      exact sameR_self _
    · have e1 : fitR ⟨2, 0, o, co, zG⟩ = true := by
        show (mayO o && plB o.row && (decide (0 ≤ co) && decide (co < 65536))) = true
        simp only [Bool.and_eq_true, decide_eq_true_eq]
        exact ⟨⟨h1, h2⟩, h3, h4⟩
      rw [e1, Bool.true_and]
      exact sameR_self _
    · have e1 : fitR ⟨3, 0, zO, 0, g⟩ = true := by
        show mayG g = true
        exact h1
      rw [e1, Bool.true_and]
      exact sameR_self _

set_option maxRecDepth 100000 in
set_option maxHeartbeats 3200000 in
theorem fits_of (q : Bool) (r : Rec) (A : Option Addr) (n c : Nat) (hn : Hid (r.op.row.length = n)) (hmr : Recr r) (hq : Hid (fitR r = q)) (w : World) (hr : Ri w A c r.op.row) :
    Calls Tryz.prog 39 #[.agg #[.int .u8 r.kd, .int .i64 r.us, .int .u8 r.op.kd, .int .u8 r.op.l, .int .u32 r.op.c, .int .u8 r.op.k, .int .i64 r.op.s, .int .u8 r.op.fl, .int .u32 r.op.fc, .int .u8 r.op.fk, .int .i64 r.op.fn, .int .i64 r.op.fm, .int .u8 r.op.al, .int .u32 r.op.ac, .int .u8 r.op.ak, .int .i64 r.op.an, .int .u8 r.op.tl, .int .u32 r.op.tc, .slice A n c, .int .i64 r.co, .int .i64 r.gr.u, .int .u8 r.gr.l, .int .u32 r.gr.c, .bool r.gr.ok]] w fun e w' => e = .returned (.bool q) ∧ Below w.heap.size w w' := by
  have h := hq.out
  clear hq
  unfold fitR at h
  have xa := boxR_new w r A n c 88
  have hb := below1 w (.cells (#[.int .u8 r.kd, .int .i64 r.us, .int .u8 r.op.kd, .int .u8 r.op.l, .int .u32 r.op.c, .int .u8 r.op.k, .int .i64 r.op.s, .int .u8 r.op.fl, .int .u32 r.op.fc, .int .u8 r.op.fk, .int .i64 r.op.fn, .int .i64 r.op.fm, .int .u8 r.op.al, .int .u32 r.op.ac, .int .u8 r.op.ak, .int .i64 r.op.an, .int .u8 r.op.tl, .int .u32 r.op.tc, .slice A n c, .int .i64 r.co, .int .i64 r.gr.u, .int .u8 r.gr.l, .int .u32 r.gr.c, .bool r.gr.ok]) 88)
  have HR := hid (hr.keep hb)
  clear hr
  by_cases k1 : r.kd = 1
  · rw [if_pos k1] at h
    have d1 : (r.kd == 1) = true := by simpa using k1
    obtain ⟨q0, h0⟩ : ∃ q, mayH r.op.l r.op.k = q := ⟨_, rfl⟩
    obtain ⟨q1, h1⟩ : ∃ q, (decide (0 ≤ r.us) && decide (r.us < 256)) = q := ⟨_, rfl⟩
    rw [h0, h1] at h
    obtain ⟨j, hj⟩ : ∃ j, er q0 = j := ⟨_, rfl⟩
    have HQ := hid h
    have HJ := hid (show er (mayH r.op.l r.op.k) = j by rw [h0]; exact hj)
    have HE := hid (show (j == 0) = q0 by rw [← hj]; cases q0 <;> rfl)
    have H1 := hid h1
    clear h h0 h1 k1 hj
    have HE2 := HE.out
    go_enter Tryz.func39, Tryz.ntmps39
    go_wp2_with (first
      | (refine wpList_load_rh rfl (.tmp 10) rfl w.heap.size rfl xa ?_)
      | (go_at_call 60; refine (chkH_j j r.op.l r.op.c r.op.k HJ _).mono ?_; rintro e w1 ⟨rfl, b1⟩; have xa1 := xa.keep b1; have hb1 := below_in hb b1; have cu := xa1.u; clear xa b1)
      | (go_at_call 55; refine (below_of r.us 256 q1 H1 _).mono ?_; rintro e w2 ⟨rfl, rfl⟩))
    all_goals
      go_ret
      refine ⟨ret_bool ?_, hb1⟩
      simp [← HQ.out, *]
  by_cases k2 : r.kd = 2
  · rw [if_neg k1, if_pos k2] at h
    have d1 : (r.kd == 1) = false := by simpa using k1
    have d2 : (r.kd == 2) = true := by simpa using k2
    obtain ⟨q0, h0⟩ : ∃ q, mayO r.op = q := ⟨_, rfl⟩
    obtain ⟨q1, h1⟩ : ∃ q, plB r.op.row = q := ⟨_, rfl⟩
    obtain ⟨q2, h2⟩ : ∃ q, (decide (0 ≤ r.co) && decide (r.co < 65536)) = q := ⟨_, rfl⟩
    rw [h0, h1, h2] at h
    obtain ⟨j, hj⟩ : ∃ j, er q0 = j := ⟨_, rfl⟩
    have HQ := hid h
    have HJ := hid (show er (mayO r.op) = j by rw [h0]; exact hj)
    have HE2 : (j == 0) = q0 := by rw [← hj]; cases q0 <;> rfl
    have H1 := hid h1
    have H2 := hid h2
    have hco : IntKind.i64.wrap r.co = r.co := by have := hmr.co; unfold In64 at this; rw [IntKind.wrap_i64]; omega
    clear h h0 h1 h2 k1 k2 hj
    go_enter Tryz.func39, Tryz.ntmps39
    go_wp2_with (first
      | (refine wpList_load_ro rfl (.tmp 23) rfl w.heap.size rfl xa ?_)
      | (go_at_call 61; refine (ocheck_of j r.op A n c hn HJ _ HR.out).mono ?_; rintro e w1 ⟨rfl, b1⟩; have xa1 := xa.keep b1; have HR1 := hid (HR.out.keep b1); have hb1 := below_in hb b1; clear xa b1)
      | (refine wpList_load_ro rfl (.tmp 29) rfl w.heap.size rfl xa1 ?_)
      | (go_at_call 62; refine (plain_of q1 r.op A n c hn H1 _ HR1.out).mono ?_; rintro e w2 ⟨rfl, b2⟩; have xa2 := xa1.keep b2; have hb2 := below_in hb1 b2; have cc := xa2.co; clear xa1 b2)
      | (go_at_call 55; refine (below_of r.co 65536 q2 H2 _).mono ?_; rintro e w3 ⟨rfl, rfl⟩))
    all_goals
      go_ret
      refine ⟨ret_bool ?_, by first | exact hb2 | exact hb1⟩
      simp [← HQ.out, *]
  by_cases k3 : r.kd = 3
  · rw [if_neg k1, if_neg k2, if_pos k3] at h
    have d1 : (r.kd == 1) = false := by simpa using k1
    have d2 : (r.kd == 2) = false := by simpa using k2
    have d3 : (r.kd == 3) = true := by simpa using k3
    have HJ := hid h
    have HE2 : (er q == 0) = q := by cases q <;> rfl
    clear h k1 k2 k3
    go_enter Tryz.func39, Tryz.ntmps39
    go_wp2_with (first
      | (refine wpList_load_rg rfl (.tmp 42) rfl w.heap.size rfl xa ?_)
      | (go_at_call 63; refine (gcheck_of q r.gr.u r.gr.l r.gr.c r.gr.ok hmr.gr HJ _).mono ?_; rintro e w1 ⟨rfl, b1⟩; have hb1 := below_in hb b1; clear xa b1; generalize er q = j at *))
    go_ret
    exact ⟨by first | rfl | exact ret_bool HE2, hb1⟩
  · rw [if_neg k1, if_neg k2, if_neg k3] at h
    have d1 : (r.kd == 1) = false := by simpa using k1
    have d2 : (r.kd == 2) = false := by simpa using k2
    have d3 : (r.kd == 3) = false := by simpa using k3
    subst h
    clear k1 k2 k3
    go_enter Tryz.func39, Tryz.ntmps39
    go_wp2
    go_ret
    exact ⟨rfl, hb⟩

theorem twoL_new (w : World) (a : Rec) (A : Option Addr) (n c : Nat) : TwoR w ((w.alloc (.cells (#[.int .u8 a.kd, .int .i64 a.us, .int .u8 a.op.kd, .int .u8 a.op.l, .int .u32 a.op.c, .int .u8 a.op.k, .int .i64 a.op.s, .int .u8 a.op.fl, .int .u32 a.op.fc, .int .u8 a.op.fk, .int .i64 a.op.fn, .int .i64 a.op.fm, .int .u8 a.op.al, .int .u32 a.op.ac, .int .u8 a.op.ak, .int .i64 a.op.an, .int .u8 a.op.tl, .int .u32 a.op.tc, .slice A n c, .int .i64 a.co, .int .i64 a.gr.u, .int .u8 a.gr.l, .int .u32 a.gr.c, .bool a.gr.ok]) 88)).alloc (.cells (#[.int .u8 0, .int .i64 0, .int .u8 0, .int .u8 0, .int .u32 0, .int .u8 0, .int .i64 0, .int .u8 0, .int .u32 0, .int .u8 0, .int .i64 0, .int .i64 0, .int .u8 0, .int .u32 0, .int .u8 0, .int .i64 0, .int .u8 0, .int .u32 0, .slice none 0 0, .int .i64 0, .int .i64 0, .int .u8 0, .int .u32 0, .bool false]) 40)) a A n c zR none 0 0 := by
  have e1 := size1 w (.cells (#[.int .u8 a.kd, .int .i64 a.us, .int .u8 a.op.kd, .int .u8 a.op.l, .int .u32 a.op.c, .int .u8 a.op.k, .int .i64 a.op.s, .int .u8 a.op.fl, .int .u32 a.op.fc, .int .u8 a.op.fk, .int .i64 a.op.fn, .int .i64 a.op.fm, .int .u8 a.op.al, .int .u32 a.op.ac, .int .u8 a.op.ak, .int .i64 a.op.an, .int .u8 a.op.tl, .int .u32 a.op.tc, .slice A n c, .int .i64 a.co, .int .i64 a.gr.u, .int .u8 a.gr.l, .int .u32 a.gr.c, .bool a.gr.ok]) 88)
  have xb : BoxR ((w.alloc (.cells (#[.int .u8 a.kd, .int .i64 a.us, .int .u8 a.op.kd, .int .u8 a.op.l, .int .u32 a.op.c, .int .u8 a.op.k, .int .i64 a.op.s, .int .u8 a.op.fl, .int .u32 a.op.fc, .int .u8 a.op.fk, .int .i64 a.op.fn, .int .i64 a.op.fm, .int .u8 a.op.al, .int .u32 a.op.ac, .int .u8 a.op.ak, .int .i64 a.op.an, .int .u8 a.op.tl, .int .u32 a.op.tc, .slice A n c, .int .i64 a.co, .int .i64 a.gr.u, .int .u8 a.gr.l, .int .u32 a.gr.c, .bool a.gr.ok]) 88)).alloc (.cells (#[.int .u8 0, .int .i64 0, .int .u8 0, .int .u8 0, .int .u32 0, .int .u8 0, .int .i64 0, .int .u8 0, .int .u32 0, .int .u8 0, .int .i64 0, .int .i64 0, .int .u8 0, .int .u32 0, .int .u8 0, .int .i64 0, .int .u8 0, .int .u32 0, .slice none 0 0, .int .i64 0, .int .i64 0, .int .u8 0, .int .u32 0, .bool false]) 40)) (w.alloc (.cells (#[.int .u8 a.kd, .int .i64 a.us, .int .u8 a.op.kd, .int .u8 a.op.l, .int .u32 a.op.c, .int .u8 a.op.k, .int .i64 a.op.s, .int .u8 a.op.fl, .int .u32 a.op.fc, .int .u8 a.op.fk, .int .i64 a.op.fn, .int .i64 a.op.fm, .int .u8 a.op.al, .int .u32 a.op.ac, .int .u8 a.op.ak, .int .i64 a.op.an, .int .u8 a.op.tl, .int .u32 a.op.tc, .slice A n c, .int .i64 a.co, .int .i64 a.gr.u, .int .u8 a.gr.l, .int .u32 a.gr.c, .bool a.gr.ok]) 88)).heap.size zR none 0 0 := boxR_new (w.alloc (.cells (#[.int .u8 a.kd, .int .i64 a.us, .int .u8 a.op.kd, .int .u8 a.op.l, .int .u32 a.op.c, .int .u8 a.op.k, .int .i64 a.op.s, .int .u8 a.op.fl, .int .u32 a.op.fc, .int .u8 a.op.fk, .int .i64 a.op.fn, .int .i64 a.op.fm, .int .u8 a.op.al, .int .u32 a.op.ac, .int .u8 a.op.ak, .int .i64 a.op.an, .int .u8 a.op.tl, .int .u32 a.op.tc, .slice A n c, .int .i64 a.co, .int .i64 a.gr.u, .int .u8 a.gr.l, .int .u32 a.gr.c, .bool a.gr.ok]) 88)) zR none 0 0 40
  have tb := thereR_new (w.alloc (.cells (#[.int .u8 a.kd, .int .i64 a.us, .int .u8 a.op.kd, .int .u8 a.op.l, .int .u32 a.op.c, .int .u8 a.op.k, .int .i64 a.op.s, .int .u8 a.op.fl, .int .u32 a.op.fc, .int .u8 a.op.fk, .int .i64 a.op.fn, .int .i64 a.op.fm, .int .u8 a.op.al, .int .u32 a.op.ac, .int .u8 a.op.ak, .int .i64 a.op.an, .int .u8 a.op.tl, .int .u32 a.op.tc, .slice A n c, .int .i64 a.co, .int .i64 a.gr.u, .int .u8 a.gr.l, .int .u32 a.gr.c, .bool a.gr.ok]) 88)) (#[.int .u8 0, .int .i64 0, .int .u8 0, .int .u8 0, .int .u32 0, .int .u8 0, .int .i64 0, .int .u8 0, .int .u32 0, .int .u8 0, .int .i64 0, .int .i64 0, .int .u8 0, .int .u32 0, .int .u8 0, .int .i64 0, .int .u8 0, .int .u32 0, .slice none 0 0, .int .i64 0, .int .i64 0, .int .u8 0, .int .u32 0, .bool false]) rfl 40
  rw [e1] at xb tb
  exact ⟨(boxR_new w a A n c _).keep (below1 _ _), xb, (thereR_new w _ rfl _).keep (below1 _ _), tb, below2 w _ _, size2 w _ _⟩
set_option maxRecDepth 100000 in
set_option maxHeartbeats 3200000 in
theorem only_of (r : Rec) (A : Option Addr) (n c : Nat) (hn : Hid (r.op.row.length = n)) (hmr : Recr r) (w : World) (hr : Ri w A c r.op.row) :
    Calls Tryz.prog 40 #[.agg #[.int .u8 r.kd, .int .i64 r.us, .int .u8 r.op.kd, .int .u8 r.op.l, .int .u32 r.op.c, .int .u8 r.op.k, .int .i64 r.op.s, .int .u8 r.op.fl, .int .u32 r.op.fc, .int .u8 r.op.fk, .int .i64 r.op.fn, .int .i64 r.op.fm, .int .u8 r.op.al, .int .u32 r.op.ac, .int .u8 r.op.ak, .int .i64 r.op.an, .int .u8 r.op.tl, .int .u32 r.op.tc, .slice A n c, .int .i64 r.co, .int .i64 r.gr.u, .int .u8 r.gr.l, .int .u32 r.gr.c, .bool r.gr.ok]] w fun e w' => ∃ A' n' c', e = .returned (.agg #[.int .u8 (onlyR r).kd, .int .i64 (onlyR r).us, .int .u8 (onlyR r).op.kd, .int .u8 (onlyR r).op.l, .int .u32 (onlyR r).op.c, .int .u8 (onlyR r).op.k, .int .i64 (onlyR r).op.s, .int .u8 (onlyR r).op.fl, .int .u32 (onlyR r).op.fc, .int .u8 (onlyR r).op.fk, .int .i64 (onlyR r).op.fn, .int .i64 (onlyR r).op.fm, .int .u8 (onlyR r).op.al, .int .u32 (onlyR r).op.ac, .int .u8 (onlyR r).op.ak, .int .i64 (onlyR r).op.an, .int .u8 (onlyR r).op.tl, .int .u32 (onlyR r).op.tc, .slice A' n' c', .int .i64 (onlyR r).co, .int .i64 (onlyR r).gr.u, .int .u8 (onlyR r).gr.l, .int .u32 (onlyR r).gr.c, .bool (onlyR r).gr.ok]) ∧ (onlyR r).op.row.length = n' ∧ Ri w' A' c' (onlyR r).op.row ∧ Below w.heap.size w w' := by
  have pp := twoL_new w r A n c
  have HR := hid hr
  clear hr
  by_cases k1 : r.kd = 1
  · have e : onlyR r = ⟨r.kd, r.us, byO r.op.l r.op.c r.op.k, 0, zG⟩ := by rw [onlyR, if_pos k1]
    have d1 : (r.kd == 1) = true := by simpa using k1
    rw [e]
    clear e k1 hmr
    go_enter Tryz.func40, Tryz.ntmps40
    have one : True := trivial
    have two : True := trivial
    go_wp2_with (first
      | (clear one; generalize World.alloc (World.alloc w _) _ = W at pp ⊢; have ck := pp.xa.k; have cu := pp.xa.u; refine wpList_load_rh rfl (.tmp 17) rfl w.heap.size rfl pp.xa ?_)
      | (clear two; refine wpList_store_r rfl (.tmp 2) (.tmp 20) rfl (w.heap.size + 1) rfl ⟨r.kd, r.us, byO r.op.l r.op.c r.op.k, 0, zG⟩ none 0 0 rfl pp.tb w.heap.size (by omega) ?_; intro w3 x3 t3 b3 h3 z3))
    exact bodyPost_ret (results_r rfl rfl x3) rfl ⟨none, 0, 0, rfl, rfl, Ri.nil _, pp.be.trans b3⟩
  by_cases k2 : r.kd = 2
  · have e : onlyR r = ⟨r.kd, 0, r.op, r.co, zG⟩ := by rw [onlyR, if_neg k1, if_pos k2]
    have d1 : (r.kd == 1) = false := by simpa using k1
    have d2 : (r.kd == 2) = true := by simpa using k2
    rw [e]
    clear e k1 k2 hmr
    go_enter Tryz.func40, Tryz.ntmps40
    have one : True := trivial
    have two : True := trivial
    go_wp2_with (first
      | (clear one; generalize World.alloc (World.alloc w _) _ = W at pp ⊢; have ck := pp.xa.k; have cu := pp.xa.co; refine wpList_load_ro rfl (.tmp 27) rfl w.heap.size rfl pp.xa ?_)
      | (clear two; refine wpList_store_r rfl (.tmp 2) (.tmp 32) rfl (w.heap.size + 1) rfl ⟨r.kd, 0, r.op, r.co, zG⟩ A n c rfl pp.tb w.heap.size (by omega) ?_; intro w3 x3 t3 b3 h3 z3))
    exact bodyPost_ret (results_r rfl rfl x3) rfl ⟨A, n, c, rfl, hn.out, HR.out.keep (pp.be.trans b3), pp.be.trans b3⟩
  by_cases k3 : r.kd = 3
  · have e : onlyR r = ⟨r.kd, 0, zO, 0, r.gr⟩ := by rw [onlyR, if_neg k1, if_neg k2, if_pos k3]
    have d1 : (r.kd == 1) = false := by simpa using k1
    have d2 : (r.kd == 2) = false := by simpa using k2
    have d3 : (r.kd == 3) = true := by simpa using k3
    rw [e]
    clear e k1 k2 k3 hmr
    go_enter Tryz.func40, Tryz.ntmps40
    have one : True := trivial
    have two : True := trivial
    go_wp2_with (first
      | (clear one; generalize World.alloc (World.alloc w _) _ = W at pp ⊢; have ck := pp.xa.k; refine wpList_load_rg rfl (.tmp 39) rfl w.heap.size rfl pp.xa ?_)
      | (clear two; refine wpList_store_r rfl (.tmp 2) (.tmp 41) rfl (w.heap.size + 1) rfl ⟨r.kd, 0, zO, 0, r.gr⟩ none 0 0 rfl pp.tb w.heap.size (by omega) ?_; intro w3 x3 t3 b3 h3 z3))
    exact bodyPost_ret (results_r rfl rfl x3) rfl ⟨none, 0, 0, rfl, rfl, Ri.nil _, pp.be.trans b3⟩
  · have e : onlyR r = zR := by rw [onlyR, if_neg k1, if_neg k2, if_neg k3]
    have d1 : (r.kd == 1) = false := by simpa using k1
    have d2 : (r.kd == 2) = false := by simpa using k2
    have d3 : (r.kd == 3) = false := by simpa using k3
    rw [e]
    clear e k1 k2 k3 hmr
    go_enter Tryz.func40, Tryz.ntmps40
    have two : True := trivial
    go_wp2_with (clear two; generalize World.alloc (World.alloc w _) _ = W at pp ⊢; refine wpList_store_r rfl (.tmp 2) (.tmp 6) rfl (w.heap.size + 1) rfl zR none 0 0 rfl pp.tb w.heap.size (by omega) ?_; intro w3 x3 t3 b3 h3 z3)
    exact bodyPost_ret (results_r rfl rfl x3) rfl ⟨none, 0, 0, rfl, rfl, Ri.nil _, pp.be.trans b3⟩
end Go.Proofs.YtndmblhkmgnpcaaGreat

namespace Go.Proofs.YtndmblhkmgnpcaaGreat
open Go.RowKit
set_option linter.unusedVariables false
set_option linter.unusedSimpArgs false

theorem run_build_lg (r : Rec) (A : Option Addr) (n c : Nat) (f : Operand → Value) (i : Tmp) (o : Oper) (ho : o.op = Op.build 88 #[(0, Operand.tmp i)]) (h : f (.tmp i) = .agg #[.int .u8 r.kd, .int .i64 r.us, .int .u8 r.op.kd, .int .u8 r.op.l, .int .u32 r.op.c, .int .u8 r.op.k, .int .i64 r.op.s, .int .u8 r.op.fl, .int .u32 r.op.fc, .int .u8 r.op.fk, .int .i64 r.op.fn, .int .i64 r.op.fm, .int .u8 r.op.al, .int .u32 r.op.ac, .int .u8 r.op.ak, .int .i64 r.op.an, .int .u8 r.op.tl, .int .u32 r.op.tc, .slice A n c, .int .i64 r.co, .int .i64 r.gr.u, .int .u8 r.gr.l, .int .u32 r.gr.c, .bool r.gr.ok]) (w : World) :
    Sem.run Tryz.prog (execOp f o) w = .ok (.value (.agg #[.int .u8 r.kd, .int .i64 r.us, .int .u8 r.op.kd, .int .u8 r.op.l, .int .u32 r.op.c, .int .u8 r.op.k, .int .i64 r.op.s, .int .u8 r.op.fl, .int .u32 r.op.fc, .int .u8 r.op.fk, .int .i64 r.op.fn, .int .i64 r.op.fm, .int .u8 r.op.al, .int .u32 r.op.ac, .int .u8 r.op.ak, .int .i64 r.op.an, .int .u8 r.op.tl, .int .u32 r.op.tc, .slice A n c, .int .i64 r.co, .int .i64 r.gr.u, .int .u8 r.gr.l, .int .u32 r.gr.c, .bool r.gr.ok])) w := by
  obtain ⟨d, op, t, p, af, g⟩ := o
  dsimp only at ho
  subst ho
  simp only [execOp, List.map_toArray, List.map_cons, List.map_nil, h]
  go_simp

set_option maxRecDepth 100000 in
set_option maxHeartbeats 6400000 in
theorem rec_check_of (j : Int) (r : Rec) (A : Option Addr) (n c : Nat) (hn : Hid (r.op.row.length = n)) (hmr : Recr r) (hj : Hid (er (mayR r) = j)) (w : World) (hr : Ri w A c r.op.row) :
    Calls Tryz.prog 14 #[.agg #[.int .u8 r.kd, .int .i64 r.us, .int .u8 r.op.kd, .int .u8 r.op.l, .int .u32 r.op.c, .int .u8 r.op.k, .int .i64 r.op.s, .int .u8 r.op.fl, .int .u32 r.op.fc, .int .u8 r.op.fk, .int .i64 r.op.fn, .int .i64 r.op.fm, .int .u8 r.op.al, .int .u32 r.op.ac, .int .u8 r.op.ak, .int .i64 r.op.an, .int .u8 r.op.tl, .int .u32 r.op.tc, .slice A n c, .int .i64 r.co, .int .i64 r.gr.u, .int .u8 r.gr.l, .int .u32 r.gr.c, .bool r.gr.ok]] w fun e w' => e = .returned (.int .i64 j) ∧ Below w.heap.size w w' := by
  obtain ⟨q0, h0⟩ : ∃ q, fitR r = q := ⟨_, rfl⟩
  obtain ⟨q1, h1⟩ : ∃ q, sameR r (onlyR r) = q := ⟨_, rfl⟩
  have h := hj.out
  rw [← fit_only, h0, h1] at h
  have HJ := hid h
  have H0 := hid h0
  have H1 := hid h1
  have xa := boxR_new w r A n c 40
  have hb := below1 w (.cells (#[.int .u8 r.kd, .int .i64 r.us, .int .u8 r.op.kd, .int .u8 r.op.l, .int .u32 r.op.c, .int .u8 r.op.k, .int .i64 r.op.s, .int .u8 r.op.fl, .int .u32 r.op.fc, .int .u8 r.op.fk, .int .i64 r.op.fn, .int .i64 r.op.fm, .int .u8 r.op.al, .int .u32 r.op.ac, .int .u8 r.op.ak, .int .i64 r.op.an, .int .u8 r.op.tl, .int .u32 r.op.tc, .slice A n c, .int .i64 r.co, .int .i64 r.gr.u, .int .u8 r.gr.l, .int .u32 r.gr.c, .bool r.gr.ok]) 40)
  have HR := hid hr
  clear h h0 h1 hj hr
  go_enter Tryz.func14, Tryz.ntmps14
  go_wp2_with fail
  generalize World.alloc w _ = W at xa hb ⊢
  refine wp_region_held_drew (S := fun w' => BoxR w' w.heap.size r A n c) (by kernel_rfl) (xa.keep (Below.refl _ _).drew) (fun hHeld => ?_)
  have HX := hid (xa.keep (Below.refl _ _).drew)
  have hbW := hb.drew
  clear xa hb
  generalize W.drew = V at *
  refine wpAnyH_take (i := 0) (oi := { dst := some 3, op := Op.load 40 (Operand.tmp 1), type := 40, pos := "record.go:43", after := #[], guard := none }) rfl (by kernel_rfl) (by kernel_rfl) (by kernel_rfl) (fun _ _ _ h => h) (yields_load_r (by rfl) (.tmp 1) rfl w.heap.size rfl (fun w9 h => h)) hHeld ?_
  (try simp only [Act.put, List.setIfInBounds_toArray, List.set_cons_zero, List.set_cons_succ])
  refine wpAnyH_take (i := 1) (oi := { dst := some 4, op := Op.build 88 #[(0, Operand.tmp 3)], type := 88, pos := "record.go:43", after := #[{ on := 0, ground := Ground.data }], guard := none }) (v := ?_) rfl (by kernel_rfl) (by kernel_rfl) (by kernel_rfl) (fun _ _ _ h => h) (Or.inl ⟨by rfl, ?_⟩) hHeld ?_
  rotate_left
  · intro w9 hSw
    (try dsimp only at hSw)
    refine run_build_lg r A n c _ 3 _ ?_ ?_ w9 <;> rfl
  (try simp only [Act.put, List.setIfInBounds_toArray, List.set_cons_zero, List.set_cons_succ])
  refine wpAnyH_ready (rs := [2]) (by kernel_rfl) (by simp) ?_
  refine AllReadyH.cons rfl (fun K hK => ?_) AllReadyH.nil
  go_simp
  go_wp2_with (go_at_call 39; refine (fits_of q0 r A n c hn hmr H0 _ (HR.out.keep hbW)).mono ?_; rintro e w1 ⟨rfl, b1⟩)
  have hb1 := below_in hbW b1
  have xa1 := HX.out.keep b1
  clear b1
  refine hK.out _ _ xa1 (fun hHeld => ?_)
  clear hK K
  cases q0
  · have hj8 : j = 8 := by rw [← HJ.out]; rfl
    subst hj8
    refine wpAnyH_take (i := 3) (oi := { dst := some 6, op := Op.unOp UnOp.not 4 (Operand.tmp 5), type := 4, pos := "record.go:43", after := #[{ on := 2, ground := Ground.data }], guard := none }) (v := ?_) rfl (by kernel_rfl) (by kernel_rfl) (by kernel_rfl) (fun _ _ _ h => h) (Or.inl ⟨by rfl, ?_⟩) hHeld ?_
    rotate_left
    · intro w9 hSw
      (try dsimp only at hSw)
      go_simp <;> with_reducible rfl
    (try simp only [Act.put, List.setIfInBounds_toArray, List.set_cons_zero, List.set_cons_succ])
    refine wpAnyH_take (i := 4) (oi := { dst := some 7, op := Op.move (Operand.tmp 6), type := 4, pos := "record.go:43", after := #[{ on := 3, ground := Ground.data }, { on := 2, ground := Ground.chain }], guard := none }) (v := ?_) rfl (by kernel_rfl) (by kernel_rfl) (by kernel_rfl) (fun _ _ _ h => h) (Or.inl ⟨by rfl, ?_⟩) hHeld ?_
    rotate_left
    · intro w9 hSw
      (try dsimp only at hSw)
      go_simp <;> with_reducible rfl
    (try simp only [Act.put, List.setIfInBounds_toArray, List.set_cons_zero, List.set_cons_succ])
    refine wpAnyH_take (i := 5) (oi := { dst := some 8, op := Op.load 40 (Operand.tmp 1), type := 40, pos := "record.go:43", after := #[{ on := 4, ground := Ground.guard }], guard := some (4, false) }) (v := undef) rfl (by kernel_rfl) (by kernel_rfl) (by kernel_rfl) (fun _ _ _ h => h) (Or.inr ⟨by rfl, rfl⟩) hHeld ?_
    (try simp only [Act.put, List.setIfInBounds_toArray, List.set_cons_zero, List.set_cons_succ])
    refine wpAnyH_take (i := 6) (oi := { dst := some 9, op := Op.load 40 (Operand.tmp 1), type := 40, pos := "record.go:43", after := #[{ on := 4, ground := Ground.guard }], guard := some (4, false) }) (v := undef) rfl (by kernel_rfl) (by kernel_rfl) (by kernel_rfl) (fun _ _ _ h => h) (Or.inr ⟨by rfl, rfl⟩) hHeld ?_
    (try simp only [Act.put, List.setIfInBounds_toArray, List.set_cons_zero, List.set_cons_succ])
    refine wpAnyH_take (i := 7) (oi := { dst := some 10, op := Op.build 88 #[(0, Operand.tmp 9)], type := 88, pos := "record.go:43", after := #[{ on := 6, ground := Ground.data }, { on := 4, ground := Ground.guard }], guard := some (4, false) }) (v := undef) rfl (by kernel_rfl) (by kernel_rfl) (by kernel_rfl) (fun _ _ _ h => h) (Or.inr ⟨by rfl, rfl⟩) hHeld ?_
    (try simp only [Act.put, List.setIfInBounds_toArray, List.set_cons_zero, List.set_cons_succ])
    refine wpAnyH_take (i := 8) (oi := { dst := some 11, op := Op.call { callee := Callee.value (Operand.func 40), args := #[Operand.tmp 10], argTypes := #[88] }, type := 40, pos := "record.go:43", after := #[{ on := 7, ground := Ground.data }, { on := 4, ground := Ground.chain }, { on := 4, ground := Ground.guard }], guard := some (4, false) }) (v := undef) rfl (by kernel_rfl) (by kernel_rfl) (by kernel_rfl) (fun _ _ _ h => h) (Or.inr ⟨by rfl, rfl⟩) hHeld ?_
    (try simp only [Act.put, List.setIfInBounds_toArray, List.set_cons_zero, List.set_cons_succ])
    refine wpAnyH_take (i := 9) (oi := { dst := some 12, op := Op.call { callee := Callee.value (Operand.func 25), args := #[Operand.tmp 8, Operand.tmp 11], argTypes := #[40, 40] }, type := 4, pos := "record.go:43", after := #[{ on := 5, ground := Ground.data }, { on := 8, ground := Ground.data }, { on := 8, ground := Ground.chain }, { on := 4, ground := Ground.guard }], guard := some (4, false) }) (v := undef) rfl (by kernel_rfl) (by kernel_rfl) (by kernel_rfl) (fun _ _ _ h => h) (Or.inr ⟨by rfl, rfl⟩) hHeld ?_
    (try simp only [Act.put, List.setIfInBounds_toArray, List.set_cons_zero, List.set_cons_succ])
    refine wpAnyH_take (i := 10) (oi := { dst := some 13, op := Op.unOp UnOp.not 4 (Operand.tmp 12), type := 4, pos := "record.go:43", after := #[{ on := 9, ground := Ground.data }, { on := 4, ground := Ground.guard }], guard := some (4, false) }) (v := undef) rfl (by kernel_rfl) (by kernel_rfl) (by kernel_rfl) (fun _ _ _ h => h) (Or.inr ⟨by rfl, rfl⟩) hHeld ?_
    (try simp only [Act.put, List.setIfInBounds_toArray, List.set_cons_zero, List.set_cons_succ])
    refine wpAnyH_take (i := 11) (oi := { dst := some 14, op := Op.pick (Operand.tmp 7) (Operand.const (Value.bool true)) (Operand.tmp 13), type := 4, pos := "record.go:43", after := #[{ on := 4, ground := Ground.data }, { on := 10, ground := Ground.data }], guard := none }) (v := ?_) rfl (by kernel_rfl) (by kernel_rfl) (by kernel_rfl) (fun _ _ _ h => h) (Or.inl ⟨by rfl, ?_⟩) hHeld ?_
    rotate_left
    · intro w9 hSw
      (try dsimp only at hSw)
      go_simp <;> with_reducible rfl
    (try simp only [Act.put, List.setIfInBounds_toArray, List.set_cons_zero, List.set_cons_succ])
    refine wpAnyH_done (by kernel_rfl) ?_ _
    clear hHeld
    go_wp2
    go_ret
    exact ⟨rfl, hb1⟩
  · rw [Bool.true_and] at HJ
    refine wpAnyH_take (i := 3) (oi := { dst := some 6, op := Op.unOp UnOp.not 4 (Operand.tmp 5), type := 4, pos := "record.go:43", after := #[{ on := 2, ground := Ground.data }], guard := none }) (v := ?_) rfl (by kernel_rfl) (by kernel_rfl) (by kernel_rfl) (fun _ _ _ h => h) (Or.inl ⟨by rfl, ?_⟩) hHeld ?_
    rotate_left
    · intro w9 hSw
      (try dsimp only at hSw)
      go_simp <;> with_reducible rfl
    (try simp only [Act.put, List.setIfInBounds_toArray, List.set_cons_zero, List.set_cons_succ])
    refine wpAnyH_take (i := 4) (oi := { dst := some 7, op := Op.move (Operand.tmp 6), type := 4, pos := "record.go:43", after := #[{ on := 3, ground := Ground.data }, { on := 2, ground := Ground.chain }], guard := none }) (v := ?_) rfl (by kernel_rfl) (by kernel_rfl) (by kernel_rfl) (fun _ _ _ h => h) (Or.inl ⟨by rfl, ?_⟩) hHeld ?_
    rotate_left
    · intro w9 hSw
      (try dsimp only at hSw)
      go_simp <;> with_reducible rfl
    (try simp only [Act.put, List.setIfInBounds_toArray, List.set_cons_zero, List.set_cons_succ])
    refine wpAnyH_take (i := 5) (oi := { dst := some 8, op := Op.load 40 (Operand.tmp 1), type := 40, pos := "record.go:43", after := #[{ on := 4, ground := Ground.guard }], guard := some (4, false) }) rfl (by kernel_rfl) (by kernel_rfl) (by kernel_rfl) (fun _ _ _ h => h) (yields_load_r (by rfl) (.tmp 1) rfl w.heap.size rfl (fun w9 h => h)) hHeld ?_
    (try simp only [Act.put, List.setIfInBounds_toArray, List.set_cons_zero, List.set_cons_succ])
    refine wpAnyH_take (i := 6) (oi := { dst := some 9, op := Op.load 40 (Operand.tmp 1), type := 40, pos := "record.go:43", after := #[{ on := 4, ground := Ground.guard }], guard := some (4, false) }) rfl (by kernel_rfl) (by kernel_rfl) (by kernel_rfl) (fun _ _ _ h => h) (yields_load_r (by rfl) (.tmp 1) rfl w.heap.size rfl (fun w9 h => h)) hHeld ?_
    (try simp only [Act.put, List.setIfInBounds_toArray, List.set_cons_zero, List.set_cons_succ])
    refine wpAnyH_take (i := 7) (oi := { dst := some 10, op := Op.build 88 #[(0, Operand.tmp 9)], type := 88, pos := "record.go:43", after := #[{ on := 6, ground := Ground.data }, { on := 4, ground := Ground.guard }], guard := some (4, false) }) (v := ?_) rfl (by kernel_rfl) (by kernel_rfl) (by kernel_rfl) (fun _ _ _ h => h) (Or.inl ⟨by rfl, ?_⟩) hHeld ?_
    rotate_left
    · intro w9 hSw
      (try dsimp only at hSw)
      refine run_build_lg r A n c _ 9 _ ?_ ?_ w9 <;> rfl
    (try simp only [Act.put, List.setIfInBounds_toArray, List.set_cons_zero, List.set_cons_succ])
    refine wpAnyH_ready (rs := [8]) (by kernel_rfl) (by simp) ?_
    refine AllReadyH.cons rfl (fun K hK => ?_) AllReadyH.nil
    go_simp
    go_wp2_with (go_at_call 40; refine (only_of r A n c hn hmr _ (HR.out.keep hb1)).mono ?_; rintro e w2 ⟨A2, n2, c2, rfl, hn2, hr2, b2⟩)
    have hb2 := below_in hb1 b2
    have xa2 := xa1.keep b2
    have HN2 := hid hn2
    have HR2 := hid hr2
    clear b2 hn2 hr2
    refine hK.out _ _ xa2 (fun hHeld => ?_)
    clear hK K
    refine wpAnyH_ready (rs := [9]) (by kernel_rfl) (by simp) ?_
    refine AllReadyH.cons rfl (fun K hK => ?_) AllReadyH.nil
    go_simp
    go_wp2_with (go_at_call 25; refine (rec_same_of q1 r A n c hn _ A2 n2 c2 HN2 H1 _ (HR.out.keep hb2) HR2.out).mono ?_; rintro e w3 ⟨rfl, b3⟩)
    have hb3 := below_in hb2 b3
    have xa3 := xa2.keep b3
    clear b3
    refine hK.out _ _ xa3 (fun hHeld => ?_)
    clear hK K
    refine wpAnyH_take (i := 10) (oi := { dst := some 13, op := Op.unOp UnOp.not 4 (Operand.tmp 12), type := 4, pos := "record.go:43", after := #[{ on := 9, ground := Ground.data }, { on := 4, ground := Ground.guard }], guard := some (4, false) }) (v := ?_) rfl (by kernel_rfl) (by kernel_rfl) (by kernel_rfl) (fun _ _ _ h => h) (Or.inl ⟨by rfl, ?_⟩) hHeld ?_
    rotate_left
    · intro w9 hSw
      (try dsimp only at hSw)
      go_simp <;> with_reducible rfl
    (try simp only [Act.put, List.setIfInBounds_toArray, List.set_cons_zero, List.set_cons_succ])
    refine wpAnyH_take (i := 11) (oi := { dst := some 14, op := Op.pick (Operand.tmp 7) (Operand.const (Value.bool true)) (Operand.tmp 13), type := 4, pos := "record.go:43", after := #[{ on := 4, ground := Ground.data }, { on := 10, ground := Ground.data }], guard := none }) (v := ?_) rfl (by kernel_rfl) (by kernel_rfl) (by kernel_rfl) (fun _ _ _ h => h) (Or.inl ⟨by rfl, ?_⟩) hHeld ?_
    rotate_left
    · intro w9 hSw
      (try dsimp only at hSw)
      go_simp <;> with_reducible rfl
    (try simp only [Act.put, List.setIfInBounds_toArray, List.set_cons_zero, List.set_cons_succ])
    refine wpAnyH_done (by kernel_rfl) ?_ _
    clear hHeld
    cases q1
    all_goals
      have hj8 := HJ.out
      subst hj8
      go_wp2
      go_ret
      exact ⟨rfl, hb3⟩
end Go.Proofs.YtndmblhkmgnpcaaGreat

namespace Go.Proofs.YtndmblhkmgnpcaaGreat
open Go.RowKit
set_option linter.unusedVariables false
set_option linter.unusedSimpArgs false

set_option maxRecDepth 100000 in
set_option maxHeartbeats 800000 in
theorem rdig_any (x : Nat) (z : Int) (k : Nat) (v : Int) (hz : Hid ((x : Int) = z)) (z0 : 0 ≤ z) (z1 : z < 9223372036854775808) (hv : Hid (v = (k : Int))) (hk : k ≤ 7) (w : World) :
    Calls Tryz.prog 81 #[.int .i64 z, .int .i64 v] w fun e w' => e = .returned (.slice (some ⟨w.heap.size, 0, none⟩) k k) ∧ w' = w.alloc (.cells (u8s (dg k x)).toArray 5) := by
  obtain ⟨i0, hi0, hz0, hz1, hz2⟩ := info_parts info_u8
  have hv7 : v ≤ 7 := by rw [hv.out]; omega
  have hmk := fun W : World => run_make (P := Tryz.prog) W 51 5 i0 _ Tryz.underlying51 hi0 hz0 .i64 .i64 (k : Int) (k : Int) (by omega) (by omega) (by rw [hz2]; omega) (by omega)
  obtain rfl := hv.out
  go_enter Tryz.func81, Tryz.ntmps81
  go_wp2
  clear hmk hi0 hz0 hz1 hz2
  go_loopw [6, 11] (fun u i wr => ∃ j : Nat, j ≤ k ∧ i = .int .i64 (j : Int) ∧ wr = w.alloc (.cells (fill x k j) 5)) (fun _ i _ => k - (intOf i).toNat)
  case atStart => exact ⟨0, Nat.zero_le _, rfl, rfl⟩
  case round =>
    obtain ⟨j, hj, rfl, rfl⟩ := hrel
    by_cases hlt : j < k
    · obtain ⟨v0, hv0⟩ := fill_at (n := x) hlt
      obtain ⟨y, hy⟩ : ∃ y : Int, (k : Int) - 1 - (j : Int) = y := ⟨_, rfl⟩
      have hy0 : 0 ≤ y := by omega
      have hy1 : y ≤ 6 := by omega
      have HS := hid (show z / 2 ^ (8 * y).toNat % 256 = (x : Int) / 2 ^ (8 * (k - 1 - j)) % 256 by rw [hz.out, show (8 * y).toNat = 8 * (k - 1 - j) by omega])
      go_wp2
      go_roundw
      case rel => exact ⟨j + 1, by omega, by go_num, by rw [fill, ← HS.out]⟩
      case measure => simp [intOf]; omega
    · have hf := hid (fill_done x k)
      have ej : j = k := by omega
      subst ej
      go_wp2
      go_ret
      exact ⟨rfl, by rw [hf.out]⟩
theorem rdig_of (k : Nat) (v z : Int) (z0 : 0 ≤ z) (z1 : z < 9223372036854775808) (hv : v = (k : Int)) (hk : k ≤ 7) (w : World) :
    Calls Tryz.prog 81 #[.int .i64 z, .int .i64 v] w fun e w' => ∃ A, e = .returned (.slice A k k) ∧ Own w' w.heap.size 5 A k (nB k z) ∧ Below w.heap.size w w' := by
  refine (rdig_any z.toNat z k v (hid (by omega)) z0 z1 (hid hv) hk w).mono ?_
  rintro e w' ⟨rfl, rfl⟩
  have h := Own.lit w 5 (dg k z.toNat) (Nat.le_refl _) (by rw [dg_length]; omega)
  rw [dg_length] at h
  exact ⟨_, rfl, h, (Below.refl _ _).alloc (Nat.le_refl _) _⟩

set_option maxRecDepth 100000 in
set_option maxHeartbeats 800000 in
theorem numOf_of (z : Int) (A : Option Addr) (n c : Nat) (l : List UInt8) (hn : Hid (l.length = n)) (hz : Hid ((vl l : Int) = z)) (h7 : n ≤ 7) (w : World) (hr : Rd w A c l) :
    Calls Tryz.prog 53 #[.slice A n c] w fun e w' => e = .returned (.int .i64 z) ∧ w = w' := by
  have hc2 : (c : Int) ≤ 9223372036854775807 := by have := hr.cap; omega
  have hc1 : (n : Int) ≤ c := by have := hr.len; have := hn.out; omega
  have HR := hid hr
  clear hr
  go_enter Tryz.func53, Tryz.ntmps53
  go_wp2
  go_loop [3, 5, 8] (fun v u i => ∃ (j : Nat) (y : Int), j ≤ n ∧ i = .int .i64 (j : Int) ∧ v = .int .i64 y ∧ Hid ((vl (l.take j) : Int) = y)) (fun _ _ i => n - (intOf i).toNat)
  case atStart => exact ⟨0, 0, by omega, rfl, rfl, hid rfl⟩
  case round =>
    obtain ⟨j, y, hj, rfl, rfl, hy⟩ := hrel
    by_cases hlt : j < n
    · have hl := hn.out
      obtain ⟨b, o, rfl, hcell⟩ := HR.out.at_ (by omega)
      have h1 := hcell j (by omega)
      have hs := vl_take (l := l) (j := j) (by omega)
      have hsm := vl_small l (show j ≤ 6 by omega)
      generalize l[j]'(by omega) = d at h1 hs
      have hd := d.toNat_lt
      have hd2 : (d.toNat : Int) ≤ 255 := by omega
      have y0 : 0 ≤ y := by rw [← hy.out]; omega
      have y1 : y < 281474976710656 := by have := hy.out; simp at hsm; omega
      have ho := or_add y d y0 (by omega)
      have HS := hid (show ((vl (l.take (j + 1)) : Nat) : Int) = y * 256 + d.toNat by rw [hs]; have := hy.out; omega)
      have hlt2 : (j : Int) < (n : Int) := by omega
      clear hs hsm hd hcell hl
      go_wp2
      go_round
      case rel => exact ⟨j + 1, _, by omega, by go_num, rfl, HS⟩
      case measure => simp [intOf]; omega
    · have ej : l.take j = l := List.take_of_length_le (by have := hn.out; omega)
      have hlt2 : ¬ (j : Int) < (n : Int) := by omega
      have HE := hid ej
      clear ej
      go_wp2
      go_ret
      exact ⟨ret_int (by rw [← hz.out, ← hy.out, HE.out]), rfl⟩

theorem noBlock_of (q : Bool) (A : Option Addr) (n c : Nat) (hq : Hid (((n : Int) != 128) = q)) (w : World) :
    Calls Tryz.prog 29 #[.slice A n c] w fun e w' => e = .returned (.bool q) ∧ w = w' := by
  have h := hq.out
  go_enter Tryz.func29, Tryz.ntmps29
  go_wp2
  go_ret
  exact ⟨ret_bool (by rw [← hq.out]), rfl⟩

theorem results_d {fn : Func} {p : Tmp} (h : fn.results = #[.cell p 42]) {tmps : Array Value} {w : World} {b : Nat} (hp : tmps.getD p undef = .pointer (some ⟨b, 0, none⟩)) {s n i f : Int} (bx : BoxD w b s n i f) : (results fn tmps).run Tryz.prog w = .ok (.agg #[.int .i64 s, .int .i64 n, .int .i64 i, .int .i64 f]) w := by
  have hl := run_loadVar_mid (P := Tryz.prog) w b 0 42 _ _ bx Tryz.underlying42 rfl info_D
  simp only [results, h]
  rw [Array.getD_eq_getD_getElem?] at hp
  simp [Sem.run_bind, hp, asAddr, hl]

set_option maxRecDepth 100000 in
set_option maxHeartbeats 1600000 in
theorem headOf_of (x0 x1 x2 x3 : Int) (A : Option Addr) (c : Nat) (l : List UInt8) (hn : Hid (l.length = 128)) (hx : Hid (hS l = x0 ∧ hN l = x1 ∧ hI l = x2 ∧ hF l = x3)) (w : World) (hr : Rd w A c l) :
    Calls Tryz.prog 30 #[.slice A 128 c] w fun e w' => e = .returned (.agg #[.int .i64 x0, .int .i64 x1, .int .i64 x2, .int .i64 x3]) ∧ Below w.heap.size w w' := by
  have hl := hn.out
  have hc2 : (c : Int) ≤ 9223372036854775807 := by have := hr.cap; omega
  have hc1 : (128 : Int) ≤ c := by have := hr.len; omega
  obtain ⟨b, o, rfl, _⟩ := hr.at_ (by omega)
  obtain ⟨B1, e1, r1⟩ := cut_lh hr hl 4 3 4 7 rfl rfl (by omega)
  obtain ⟨B2, e2, r2⟩ := cut_lh hr hl 7 1 7 8 rfl rfl (by omega)
  obtain ⟨B3, e3, r3⟩ := cut_lh hr hl 8 1 8 9 rfl rfl (by omega)
  have r0 := hr.take 4
  have l0 : (l.take 4).length = 4 := by rw [List.length_take]; omega
  have l1 : ((l.drop 4).take 3).length = 3 := by rw [List.length_take, List.length_drop]; omega
  have l2 : ((l.drop 7).take 1).length = 1 := by rw [List.length_take, List.length_drop]; omega
  have l3 : ((l.drop 8).take 1).length = 1 := by rw [List.length_take, List.length_drop]; omega
  have H0 := fun w' (h : Below w.heap.size w w') => numOf_of x0 _ 4 c _ (hid l0) (hid hx.out.1) (by omega) w' (r0.keep h)
  have H1 := fun w' (h : Below w.heap.size w w') => numOf_of x1 _ 3 _ _ (hid l1) (hid hx.out.2.1) (by omega) w' (r1.keep h)
  have H2 := fun w' (h : Below w.heap.size w w') => numOf_of x2 _ 1 _ _ (hid l2) (hid hx.out.2.2.1) (by omega) w' (r2.keep h)
  have H3 := fun w' (h : Below w.heap.size w w') => numOf_of x3 _ 1 _ _ (hid l3) (hid hx.out.2.2.2) (by omega) w' (r3.keep h)
  clear r0 r1 r2 r3 l0 l1 l2 l3 hr hl hx
  have S0 : Below w.heap.size w (w.alloc (.cells (#[.int .i64 0, .int .i64 0, .int .i64 0, .int .i64 0]) 42)).drew := (below1 _ _).drew
  have S1 : ∀ o, Below w.heap.size w (w.alloc o).drew := fun o => (below1 _ _).drew
  go_enter Tryz.func30, Tryz.ntmps30
  go_wp2_with fail
  go_region_held (fun w' => Below w.heap.size w w') (with_reducible (first | assumption | exact S0 | exact S1 _))
    (first
      | (go_at_call 53; (with_reducible refine (H0 _ (by assumption)).mono ?_); rintro e w' ⟨rfl, rfl⟩)
      | (go_at_call 53; (with_reducible refine (H1 _ (by assumption)).mono ?_); rintro e w' ⟨rfl, rfl⟩)
      | (go_at_call 53; (with_reducible refine (H2 _ (by assumption)).mono ?_); rintro e w' ⟨rfl, rfl⟩)
      | (go_at_call 53; (with_reducible refine (H3 _ (by assumption)).mono ?_); rintro e w' ⟨rfl, rfl⟩))
  all_goals
    have bx1 : BoxD ((w.alloc (.cells (#[.int .i64 x0, .int .i64 x1, .int .i64 x2, .int .i64 x3]) 42)).drew) w.heap.size x0 x1 x2 x3 := (World.rangeAt_drew _ _ _ _).2 (boxD_new w x0 x1 x2 x3 _)
    have bV := S1 (.cells (#[.int .i64 x0, .int .i64 x1, .int .i64 x2, .int .i64 x3]) 42)
    clear S0 S1 H0 H1 H2 H3
    generalize (w.alloc _).drew = V at bx1 bV ⊢
    go_wp2
    exact bodyPost_ret (results_d rfl rfl bx1) rfl ⟨rfl, bV⟩

set_option maxRecDepth 100000 in
set_option maxHeartbeats 1600000 in
theorem rec_head_of (q : Bool) (x0 x1 x2 x3 : Int) (A : Option Addr) (n c : Nat) (l : List UInt8) (hn : Hid (l.length = n)) (hx : Hid (okHd l = q ∧ pick q (hS l) = x0 ∧ pick q (hN l) = x1 ∧ pick q (hI l) = x2 ∧ pick q (hF l) = x3)) (w : World) (hr : Rd w A c l) :
    Calls Tryz.prog 10 #[.slice A n c] w fun e w' => e = .returned (.tuple #[.agg #[.int .i64 x0, .int .i64 x1, .int .i64 x2, .int .i64 x3], .int .i64 (er q)]) ∧ Below w.heap.size w w' := by
  have th0 := thereD_new w (#[.int .i64 0, .int .i64 0, .int .i64 0, .int .i64 0]) rfl 42
  have hb := below1 w (.cells (#[.int .i64 0, .int .i64 0, .int .i64 0, .int .i64 0]) 42)
  by_cases h8 : n = 128
  · subst h8
    obtain ⟨y0, y1, y2, y3, hy⟩ : ∃ y0 y1 y2 y3, hS l = y0 ∧ hN l = y1 ∧ hI l = y2 ∧ hF l = y3 := ⟨_, _, _, _, rfl, rfl, rfl, rfl⟩
    have hx' := hx.out
    rw [okHd, hy.1, hy.2.1, hy.2.2.1, hy.2.2.2, hn.out, decide_eq_true rfl, Bool.true_and] at hx'
    have HY := hid hy
    have HM := hid hx'.1
    have HX := hid hx'.2
    clear hx hx' hy
    go_enter Tryz.func10, Tryz.ntmps10
    go_wp2_with fail
    refine (noBlock_of false A 128 c (hid (by rfl)) _).mono ?_
    rintro e w1 ⟨rfl, rfl⟩
    go_wp2_with fail
    refine (headOf_of y0 y1 y2 y3 A c l hn HY _ (hr.keep hb)).mono ?_
    rintro e w1 ⟨rfl, b1⟩
    have th1 := th0.keep b1
    have hb1 := below_in hb b1
    clear b1 th0 hb
    go_wp2_with fail
    refine (rheadMay_of q y0 y1 y2 y3 HM _).mono ?_
    rintro e w2 ⟨rfl, b2⟩
    have th2 := th1.keep b2
    have hb2 := below_in hb1 b2
    clear b2 th1 hb1
    cases q
    · have h := HX.out
      simp only [pick_false] at h
      obtain ⟨rfl, rfl, rfl, rfl⟩ := h
      go_wp2_with (refine wpList_store_d rfl (.tmp 2) (.tmp 12) rfl w.heap.size rfl 0 0 0 0 rfl th2 w.heap.size (Nat.le_refl _) ?_; intro v4 bx4 th4 b4 hh4 sz4)
      exact bodyPost_ret (results_d1 rfl rfl bx4) rfl ⟨rfl, hb2.trans b4⟩
    · have h := HX.out
      simp only [pick_true] at h
      obtain ⟨rfl, rfl, rfl, rfl⟩ := h
      go_wp2_with fail
      refine (headOf_of y0 y1 y2 y3 A c l hn HY _ (hr.keep hb2)).mono ?_
      rintro e w3 ⟨rfl, b3⟩
      have th3 := th2.keep b3
      have hb3 := below_in hb2 b3
      clear b3 th2 hb2
      go_wp2_with (refine wpList_store_d rfl (.tmp 2) (.tmp 14) rfl w.heap.size rfl y0 y1 y2 y3 rfl th3 w.heap.size (Nat.le_refl _) ?_; intro v4 bx4 th4 b4 hh4 sz4)
      exact bodyPost_ret (results_d1 rfl rfl bx4) rfl ⟨rfl, hb3.trans b4⟩
  · have hl := hn.out
    have hx' := hx.out
    rw [okHd, hl, decide_eq_false h8, Bool.false_and] at hx'
    obtain ⟨rfl, h0, h1, h2, h3⟩ := hx'
    rw [pick_false] at h0 h1 h2 h3
    subst h0 h1 h2 h3
    have HB := hid (show ((n : Int) != 128) = true by simp; omega)
    clear hx hr hn hl
    go_enter Tryz.func10, Tryz.ntmps10
    go_wp2_with fail
    refine (noBlock_of true A n c HB _).mono ?_
    rintro e w1 ⟨rfl, rfl⟩
    go_wp2_with (refine wpList_store_d rfl (.tmp 2) (.tmp 12) rfl w.heap.size rfl 0 0 0 0 rfl th0 w.heap.size (Nat.le_refl _) ?_; intro v4 bx4 th4 b4 hh4 sz4)
    exact bodyPost_ret (results_d1 rfl rfl bx4) rfl ⟨rfl, hb.trans b4⟩

/-! ### Blocks -/
set_option maxRecDepth 100000 in
set_option maxHeartbeats 1600000 in
theorem joined_of (L : List (List UInt8)) (A : Option Addr) (n c : Nat) (hn : Hid (L.length = n)) (h5 : n ≤ 500) (hall : Hid (∀ i (hi : i < L.length), L[i].length = 128)) (w : World) (hr : RdB w A c L) :
    Calls Tryz.prog 32 #[.slice A n c] w fun e w' => ∃ m A' c', e = .returned (.slice A' m c') ∧ Hid ((textOf L).length = m) ∧ Own w' w.heap.size 5 A' c' (textOf L) ∧ Below w.heap.size w w' := by
  obtain ⟨i0, hi0, hz0, hz1, hz2⟩ := info_parts info_u8
  have hc2 : (c : Int) ≤ 9223372036854775807 := by have := hr.cap; omega
  have hc1 : (n : Int) ≤ c := by have := hr.len; have := hn.out; omega
  have HR := hid hr
  clear hr
  go_enter Tryz.func32, Tryz.ntmps32
  go_wp2
  go_loopw [3, 5, 8] (fun v u i wr => ∃ (j : Nat) (A' : Option Addr) (n' c' : Nat), j ≤ n ∧ v = .slice A' n' c' ∧ i = .int .i64 (j : Int) ∧ Hid ((textOf (L.take j)).length = n') ∧ n' = j * 119 ∧ Own wr w.heap.size 5 A' c' (textOf (L.take j)) ∧ Below w.heap.size w wr) (fun _ _ i _ => n - (intOf i).toNat)
  case atStart => exact ⟨0, none, 0, 0, by omega, rfl, rfl, hid rfl, rfl, Own.nil _ _ _, Below.refl _ _⟩
  case round =>
    obtain ⟨j, A', n', c', hj, rfl, rfl, hnn, hn9, ho, hb⟩ := hrel
    by_cases hjn : j < n
    · have hlt2 : (j : Int) < (n : Int) := by omega
      have hjl : j < L.length := by rw [hn.out]; exact hjn
      obtain ⟨b, o, rfl, hcell⟩ := (HR.out.keep hb).at_ (by omega)
      obtain ⟨B, d, hc, hB⟩ := hcell j hjl
      have hst := textOf_step L j hjl
      have hp := hall.out j hjl
      obtain ⟨la, hla⟩ : ∃ l, L[j] = l := ⟨_, rfl⟩
      rw [hla] at hc hB hst hp
      rw [hp] at hc
      obtain ⟨D, hrun, hD⟩ := cut_from hB hp 9 119 9 rfl rfl
      have HST := hid hst
      have HL9 := hid (show (la.drop 9).length = 119 by rw [List.length_drop, hp])
      have hn2 := hid (show (textOf (L.take (j + 1))).length = n' + 119 by rw [hst, List.length_append, hnn.out, HL9.out])
      clear hcell hp hB hst hla hjl
      go_wp2_with (at_builtin; refine wpList_append_rd rfl (.tmp 12) (.tmp 14) _ rfl w.heap.size 5 Tryz.underlying51 hi0 hz0 hz1 hz2 A' n' c' (textOf (L.take j)) hnn rfl ho D 119 (d - 9) (la.drop 9) HL9 rfl hD (by omega) hb.size ?_; intro A2 c2 w2 ho2 b2)
      rw [← HST.out] at ho2
      have hb2 := hb.trans b2
      clear ho hb b2 hrun hD hc
      go_roundw
      case rel => exact ⟨j + 1, A2, n' + 119, c2, by omega, by rw [hn9], by go_num, hn2, by omega, ho2, hb2⟩
      case measure => simp [intOf]; omega
    · have hlt2 : ¬ (j : Int) < (n : Int) := by omega
      have ej : j = n := by omega
      subst ej
      have HE := hid (show L.take j = L from List.take_of_length_le (by have := hn.out; omega))
      rw [HE.out] at ho hnn
      subst hn9
      go_wp2
      go_ret
      exact ⟨_, A', c', rfl, hnn, ho, hb⟩

def fitB (L : List (List UInt8)) : Bool := L.all fun x => x.length == 128
theorem fitB_no {L : List (List UInt8)} {j : Nat} (hj : j < L.length) (h : L[j].length ≠ 128) : fitB L = false := by
  rw [fitB, List.all_eq_false]
  exact ⟨L[j], List.getElem_mem hj, by simpa using h⟩
theorem fitB_yes {L : List (List UInt8)} (h : ∀ i (hi : i < L.length), L[i].length = 128) : fitB L = true := by
  rw [fitB, List.all_eq_true]
  intro x hx
  obtain ⟨i, hi, rfl⟩ := List.getElem_of_mem hx
  simpa using h i hi
theorem fitB_at {L : List (List UInt8)} (h : fitB L = true) : ∀ i (hi : i < L.length), L[i].length = 128 := fun i hi => by
  have := List.all_eq_true.1 h L[i] (List.getElem_mem hi)
  simpa using this

set_option maxRecDepth 100000 in
set_option maxHeartbeats 1600000 in
theorem indexB_of (q : Bool) (L : List (List UInt8)) (A : Option Addr) (n c : Nat) (hn : Hid (L.length = n)) (hq : Hid (fitB L = q)) (w : World) (hr : RdB w A c L) :
    Calls Tryz.prog 52 #[.slice A n c, .func (.func 29) #[] #[]] w fun e w' => ∃ z, e = .returned (.int .i64 z) ∧ decide (0 ≤ z) = !q ∧ w = w' := by
  have hc2 : (c : Int) ≤ 9223372036854775807 := by have := hr.cap; omega
  have hc1 : (n : Int) ≤ c := by have := hr.len; have := hn.out; omega
  have HR := hid hr
  clear hr
  go_enter Tryz.func52, Tryz.ntmps52
  go_wp2
  go_loop [5, 8] (fun x i => ∃ j : Nat, j ≤ n ∧ i = .int .i64 (j : Int) ∧ Hid (∀ i (hi : i < L.length), i < j → L[i].length = 128)) (fun _ i => n - (intOf i).toNat)
  case atStart => exact ⟨0, by omega, rfl, hid (fun i _ h => absurd h (by omega))⟩
  case round =>
    obtain ⟨j, hj, rfl, hz⟩ := hrel
    by_cases hlt : j < n
    · have hjl : j < L.length := by rw [hn.out]; exact hlt
      obtain ⟨b, o, rfl, hcell⟩ := HR.out.at_ (by omega)
      obtain ⟨B, d, hc, hB⟩ := hcell j hjl
      have hbad := fun h => fitB_no (L := L) (j := j) hjl h
      obtain ⟨p, hp⟩ : ∃ p, (L[j]).length = p := ⟨_, rfl⟩
      rw [hp] at hc hbad
      have HP := hid hp
      have HBAD := hid hbad
      have hlt2 : (j : Int) < (n : Int) := by omega
      clear hcell hB hbad hp
      by_cases h8 : p = 128
      · have HZ := hid (show ∀ i (hi : i < L.length), i < j + 1 → L[i].length = 128 from fun i hi h => by
          rcases Nat.lt_or_ge i j with h1 | h1
          · exact hz.out i hi h1
          · obtain rfl : i = j := by omega
            rw [HP.out]; exact h8)
        have HB := hid (show ((p : Int) != 128) = false by simp; omega)
        clear h8 HBAD hz
        go_wp2_with (go_at_call 29; refine (noBlock_of false B p d HB _).mono ?_; rintro e w' ⟨rfl, rfl⟩)
        go_round
        case rel => exact ⟨j + 1, by omega, by go_num, HZ⟩
        case measure => simp [intOf]; omega
      · have HB := hid (show ((p : Int) != 128) = true by simp; omega)
        have hqf : q = false := by rw [← hq.out]; exact HBAD.out h8
        subst hqf
        clear h8 HBAD hz
        go_wp2_with (go_at_call 29; refine (noBlock_of true B p d HB _).mono ?_; rintro e w' ⟨rfl, rfl⟩)
        go_ret
        exact ⟨(j : Int), rfl, by simp, rfl⟩
    · have hlt2 : ¬ (j : Int) < (n : Int) := by omega
      have hqt : q = true := by rw [← hq.out]; exact fitB_yes fun i hi => hz.out i hi (by have := hn.out; omega)
      subst hqt
      clear hz
      go_wp2
      go_ret
      exact ⟨-1, rfl, by decide, rfl⟩

set_option maxRecDepth 100000 in
theorem containsB_of (q : Bool) (L : List (List UInt8)) (A : Option Addr) (n c : Nat) (hn : Hid (L.length = n)) (hq : Hid (fitB L = q)) (w : World) (hr : RdB w A c L) :
    Calls Tryz.prog 28 #[.slice A n c, .func (.func 29) #[] #[]] w fun e w' => e = .returned (.bool (!q)) ∧ w = w' := by
  go_enter Tryz.func28, Tryz.ntmps28
  go_wp2_with fail
  refine (indexB_of q L A n c hn hq _ hr).mono ?_
  rintro e w1 ⟨z, rfl, hz, rfl⟩
  go_wp2
  go_ret
  exact ⟨by first | rfl | exact ret_bool hz, rfl⟩

set_option maxRecDepth 100000 in
set_option maxHeartbeats 3200000 in
theorem equalB_of (v : Bool) (a : List (List UInt8)) (A : Option Addr) (n c : Nat) (hn : Hid (a.length = n)) (b : List (List UInt8)) (B : Option Addr) (m d : Nat) (hm : Hid (b.length = m)) (hv : Hid ((a == b) = v)) (w : World) (hr : RdB w A c a) (hs : RdB w B d b) :
    Calls Tryz.prog 33 #[.slice A n c, .slice B m d, .func (.func 34) #[] #[]] w fun e w' => e = .returned (.bool v) ∧ w = w' := by
  have hc2 : (c : Int) ≤ 9223372036854775807 := by have := hr.cap; omega
  have hc1 : (n : Int) ≤ c := by have := hr.len; have := hn.out; omega
  have hd2 : (d : Int) ≤ 9223372036854775807 := by have := hs.cap; omega
  have hd1 : (m : Int) ≤ d := by have := hs.len; have := hm.out; omega
  have HR := hid hr
  have HS := hid hs
  clear hr hs
  by_cases hnm : n = m
  · subst hnm
    go_enter Tryz.func33, Tryz.ntmps33
    go_wp2
    go_loop [7, 8, 9, 17] (fun _ _ _ i => ∃ (j : Nat), j ≤ n ∧ i = .int .i64 (j : Int) ∧ Hid (∀ i (h1 : i < a.length) (h2 : i < b.length), i < j → a[i] = b[i])) (fun _ _ _ i => n - (intOf i).toNat)
    case atStart => exact ⟨0, by omega, rfl, hid (fun i _ _ h => absurd h (by omega))⟩
    case round =>
      obtain ⟨j, hj, rfl, hz⟩ := hrel
      by_cases hlt : j < n
      · have hlt2 : (j : Int) < (n : Int) := by omega
        have hln := hn.out
        have hlm := hm.out
        obtain ⟨b1, o1, rfl, hcell⟩ := HR.out.at_ (by omega)
        obtain ⟨b2, o2, rfl, hcell'⟩ := HS.out.at_ (by omega)
        obtain ⟨X, x, hX, hRX⟩ := hcell j (by omega)
        obtain ⟨Y, y, hY, hRY⟩ := hcell' j (by omega)
        obtain ⟨la, hla⟩ : ∃ l, a[j]'(by omega) = l := ⟨_, rfl⟩
        obtain ⟨lb, hlb⟩ : ∃ l, b[j]'(by omega) = l := ⟨_, rfl⟩
        rw [hla] at hX hRX
        rw [hlb] at hY hRY
        obtain ⟨p, hp⟩ : ∃ p, la.length = p := ⟨_, rfl⟩
        obtain ⟨q, hq⟩ : ∃ q, lb.length = q := ⟨_, rfl⟩
        rw [hp] at hX
        rw [hq] at hY
        have HP := hid hp
        have HQ := hid hq
        obtain ⟨u, hu⟩ : ∃ u, (la == lb) = u := ⟨_, rfl⟩
        have HU := hid hu
        have HAT := hid (fun (h : u = false) => lists_ne (a := a) (b := b) (j := j) (by omega) (by omega) (by rw [hla, hlb, hu, h]))
        have HZ := hid (fun (h : u = true) => (show ∀ i (h1 : i < a.length) (h2 : i < b.length), i < j + 1 → a[i] = b[i] from fun i h1 h2 hi => by
          rcases Nat.lt_or_ge i j with h3 | h3
          · exact hz.out i h1 h2 h3
          · obtain rfl : i = j := by omega
            rw [hla, hlb]
            rw [h] at hu
            exact eq_of_beq hu))
        have HX := hid hRX
        have HY := hid hRY
        clear hcell hcell' hz hp hq hla hlb hln hlm hRX hRY hu
        go_wp2_with fail
        refine (bequal_of u X p x la HP Y q y lb HQ HU _ HX.out HY.out).mono ?_
        rintro e w1 ⟨rfl, rfl⟩
        cases u
        · have hE : v = false := by rw [← hv.out]; exact HAT.out rfl
          subst hE
          clear HAT HZ hv
          go_wp2
          go_ret
          exact ⟨rfl, rfl⟩
        · have HZ2 := hid (HZ.out rfl)
          clear HAT HZ
          go_wp2_with fail
          go_round
          case rel => exact ⟨j + 1, by omega, by go_num, HZ2⟩
          case measure => simp [intOf]; omega
      · have hlt2 : ¬ (j : Int) < (n : Int) := by omega
        have hE : (a == b) = true := by
          have e : a = b := List.ext_getElem (by rw [hn.out, hm.out]) fun i h1 h2 => hz.out i h1 h2 (by have := hn.out; omega)
          rw [e]; simp
        clear hz
        go_wp2
        go_ret
        exact ⟨ret_bool (by rw [← hv.out]; exact hE.symm), rfl⟩
  · have d1 : ((n : Int) == (m : Int)) = false := by simpa using (show ¬ (n : Int) = (m : Int) by omega)
    have d2 : ((n : Int) != (m : Int)) = true := by simpa using (show ¬ (n : Int) = (m : Int) by omega)
    have hE : (a == b) = false := by
      rw [beq_eq_false_iff_ne]
      rintro rfl
      exact hnm (by rw [← hn.out, ← hm.out])
    go_enter Tryz.func33, Tryz.ntmps33
    go_wp2
    go_ret
    exact ⟨ret_bool (by rw [← hv.out]; exact hE.symm), rfl⟩
end Go.Proofs.YtndmblhkmgnpcaaGreat

namespace Go.Proofs.YtndmblhkmgnpcaaGreat
open Go.RowKit
set_option linter.unusedVariables false
set_option linter.unusedSimpArgs false

set_option maxHeartbeats 800000 in
theorem putH_own (l c k : Int) (hh : Han l c k) (hm : Hid (mayH l k = true)) (w : World) :
    Calls Tryz.prog 80 #[.agg #[.int .u8 l, .int .u32 c, .int .u8 k]] w fun e w' => ∃ A' c', e = .returned (.tuple #[.slice A' 6 c', .int .i64 0]) ∧ Own w' w.heap.size 5 A' c' (hB l c k) ∧ Below w.heap.size w w' := by
  go_enter Tryz.func80, Tryz.ntmps80
  go_wp2_with fail
  refine (checkHandle_any l c k _).mono ?_
  rw [hm.out]
  rintro e w1 ⟨rfl, b1⟩
  have hb : Below w.heap.size w w1 := below_in (by go_grown) b1
  (have x0 : w1.cell? ⟨w.heap.size, 0, none⟩ = some (.int .u8 l) := (keep b1 (by simp)); have x1 : w1.cell? ⟨w.heap.size, 1, none⟩ = some (.int .u32 c) := (keep b1 (by simp)); have x2 : w1.cell? ⟨w.heap.size, 2, none⟩ = some (.int .u8 k) := (keep b1 (by simp)))
  clear b1
  go_wp2_with fail
  refine (handleBytes_any l c k _ _ _ (hid (hn_of hh.lab hh.k0 hh.k1)) _).mono ?_
  rintro e w2 ⟨A1, c1, rfl, ho, b1⟩
  go_wp2
  go_ret2
  exact ⟨A1, c1, rfl, ho.mono hb.size, below_in hb b1⟩

theorem tail_1 {r : Rec} (k1 : r.kd = 1) : tailR r = hB r.op.l r.op.c r.op.k ++ nB 1 r.us := by rw [tailR, if_pos k1]
theorem tail_2 {r : Rec} (k1 : r.kd = 2) : tailR r = nB 2 r.co ++ opb r.op := by rw [tailR, if_neg (by omega), if_pos k1]
theorem tail_3 {r : Rec} (k1 : r.kd = 3) : tailR r = gby r.gr.u.toNat r.gr.ok r.gr.l.toNat r.gr.c.toNat := by rw [tailR, if_neg (by omega), if_neg (by omega)]
/-- Bytes come back, so many. -/
def RetRdL (w : World) (l : List UInt8) (m : Nat) (e : Ending) (w' : World) : Prop := ∃ A' c', e = .returned (.slice A' m c') ∧ Rd w' A' c' l ∧ Below w.heap.size w w'

set_option maxRecDepth 100000 in
set_option maxHeartbeats 3200000 in
theorem content_1 (r : Rec) (A : Option Addr) (n c : Nat) (hmr : Recr r) (k1 : r.kd = 1) (hh : mayH r.op.l r.op.k = true) (h0 : 0 ≤ r.us) (h1 : r.us ≤ 255) (w : World) :
    Calls Tryz.prog 56 #[.agg #[.int .u8 r.kd, .int .i64 r.us, .int .u8 r.op.kd, .int .u8 r.op.l, .int .u32 r.op.c, .int .u8 r.op.k, .int .i64 r.op.s, .int .u8 r.op.fl, .int .u32 r.op.fc, .int .u8 r.op.fk, .int .i64 r.op.fn, .int .i64 r.op.fm, .int .u8 r.op.al, .int .u32 r.op.ac, .int .u8 r.op.ak, .int .i64 r.op.an, .int .u8 r.op.tl, .int .u32 r.op.tc, .slice A n c, .int .i64 r.co, .int .i64 r.gr.u, .int .u8 r.gr.l, .int .u32 r.gr.c, .bool r.gr.ok]] w (RetRdL w (tailR r) 7) := by
  obtain ⟨i0, hi0, hz0, hz1, hz2⟩ := info_parts info_u8
  have xa := boxR_new w r A n c 88
  have hb := below1 w (.cells (#[.int .u8 r.kd, .int .i64 r.us, .int .u8 r.op.kd, .int .u8 r.op.l, .int .u32 r.op.c, .int .u8 r.op.k, .int .i64 r.op.s, .int .u8 r.op.fl, .int .u32 r.op.fc, .int .u8 r.op.fk, .int .i64 r.op.fn, .int .i64 r.op.fm, .int .u8 r.op.al, .int .u32 r.op.ac, .int .u8 r.op.ak, .int .i64 r.op.an, .int .u8 r.op.tl, .int .u32 r.op.tc, .slice A n c, .int .i64 r.co, .int .i64 r.gr.u, .int .u8 r.gr.l, .int .u32 r.gr.c, .bool r.gr.ok]) 88)
  have HC := hid (tail_1 k1)
  have d1 : (r.kd == 1) = true := by simpa using k1
  have han := hmr.op.han
  have HH := hid hh
  have u9 : r.us < 9223372036854775808 := by omega
  clear k1 hmr hh
  go_enter Tryz.func56, Tryz.ntmps56
  have one : True := trivial
  have two : True := trivial
  go_wp2_with (first
    | (clear one; refine wpList_load_rh rfl (.tmp 17) rfl w.heap.size rfl xa ?_)
    | (go_at_call 80; refine (putH_own r.op.l r.op.c r.op.k han HH _).mono ?_; rintro e w2 ⟨A2, c2, rfl, ho2, b2⟩; have xa2 := xa.keep b2; have cu := xa2.u; have hb2 := below_in hb b2; have ho2' := ho2.mono hb.size; clear xa)
    | (go_at_call 81; refine (rdig_of 1 1 r.us h0 u9 rfl (by omega) _).mono ?_; rintro e w3 ⟨A3, rfl, ho3, b3⟩; have hb3 := below_in hb2 b3; have ho4 := ho2'.keep b3)
    | (at_builtin; clear two; refine wpList_append_rd rfl (.tmp 22) (.tmp 26) _ rfl w.heap.size 5 Tryz.underlying51 hi0 hz0 hz1 hz2 A2 6 c2 (hB r.op.l r.op.c r.op.k) (hid (hB_length _ _ _)) rfl ho4 A3 1 1 (nB 1 r.us) (hid (nB_length _ _)) rfl ho3.rd (by omega) hb3.size ?_; intro A5 c5 w5 ho5 b5))
  rw [← HC.out] at ho5
  go_ret
  exact ⟨A5, c5, rfl, ho5.rd, hb3.trans b5⟩

set_option maxRecDepth 100000 in
set_option maxHeartbeats 3200000 in
theorem content_2 (m : Nat) (r : Rec) (A : Option Addr) (n c : Nat) (hn : Hid (r.op.row.length = n)) (hmr : Recr r) (k1 : r.kd = 2) (h0 : 0 ≤ r.co) (h1 : r.co < 65536) (hm : mayO r.op = true) (hl : Hid ((opb r.op).length = m)) (h5 : m ≤ 1000) (w : World) (hr : Ri w A c r.op.row) :
    Calls Tryz.prog 56 #[.agg #[.int .u8 r.kd, .int .i64 r.us, .int .u8 r.op.kd, .int .u8 r.op.l, .int .u32 r.op.c, .int .u8 r.op.k, .int .i64 r.op.s, .int .u8 r.op.fl, .int .u32 r.op.fc, .int .u8 r.op.fk, .int .i64 r.op.fn, .int .i64 r.op.fm, .int .u8 r.op.al, .int .u32 r.op.ac, .int .u8 r.op.ak, .int .i64 r.op.an, .int .u8 r.op.tl, .int .u32 r.op.tc, .slice A n c, .int .i64 r.co, .int .i64 r.gr.u, .int .u8 r.gr.l, .int .u32 r.gr.c, .bool r.gr.ok]] w (RetRdL w (tailR r) (2 + m)) := by
  obtain ⟨i0, hi0, hz0, hz1, hz2⟩ := info_parts info_u8
  have xa := boxR_new w r A n c 88
  have hb := below1 w (.cells (#[.int .u8 r.kd, .int .i64 r.us, .int .u8 r.op.kd, .int .u8 r.op.l, .int .u32 r.op.c, .int .u8 r.op.k, .int .i64 r.op.s, .int .u8 r.op.fl, .int .u32 r.op.fc, .int .u8 r.op.fk, .int .i64 r.op.fn, .int .i64 r.op.fm, .int .u8 r.op.al, .int .u32 r.op.ac, .int .u8 r.op.ak, .int .i64 r.op.an, .int .u8 r.op.tl, .int .u32 r.op.tc, .slice A n c, .int .i64 r.co, .int .i64 r.gr.u, .int .u8 r.gr.l, .int .u32 r.gr.c, .bool r.gr.ok]) 88)
  have HC := hid (tail_2 k1)
  have d1 : (r.kd == 1) = false := by simpa using (show ¬ r.kd = 1 by omega)
  have d2 : (r.kd == 2) = true := by simpa using k1
  have hor : Opr r.op := hmr.op
  have HRW := hid hr
  have u9 : r.co < 9223372036854775808 := by omega
  have hwr : IntKind.i64.wrap r.co = r.co := by rw [IntKind.wrap_i64]; omega
  clear k1 hmr hr
  go_enter Tryz.func56, Tryz.ntmps56
  have one : True := trivial
  have two : True := trivial
  go_wp2_with (first
    | (clear one; refine wpList_load_ro rfl (.tmp 32) rfl w.heap.size rfl xa ?_)
    | (go_at_call 82; refine (oput_yes m r.op A n c hn hor hm hl _ (HRW.out.keep hb)).mono ?_; rintro e w2 ⟨A2, c2, rfl, hr2, b2⟩; have xa2 := xa.keep b2; have cu := xa2.co; have hb2 := below_in hb b2; clear xa)
    | (go_at_call 81; refine (rdig_of 2 2 r.co h0 u9 rfl (by omega) _).mono ?_; rintro e w3 ⟨A3, rfl, ho3, b3⟩; have hb3 := below_in hb2 b3; have hr3 := hr2.keep b3; have ho4 := ho3.mono hb2.size)
    | (at_builtin; clear two; refine wpList_append_rd rfl (.tmp 40) (.tmp 41) _ rfl w.heap.size 5 Tryz.underlying51 hi0 hz0 hz1 hz2 A3 2 2 (nB 2 r.co) (hid (nB_length _ _)) rfl ho4 A2 m c2 (opb r.op) hl rfl hr3 (by omega) hb3.size ?_; intro A5 c5 w5 ho5 b5))
  rw [← HC.out] at ho5
  go_ret
  exact ⟨A5, c5, rfl, ho5.rd, hb3.trans b5⟩

set_option maxRecDepth 100000 in
set_option maxHeartbeats 3200000 in
theorem content_3 (r : Rec) (A : Option Addr) (n c : Nat) (hmr : Recr r) (k1 : r.kd = 3) (hm : mayG r.gr = true) (w : World) :
    Calls Tryz.prog 56 #[.agg #[.int .u8 r.kd, .int .i64 r.us, .int .u8 r.op.kd, .int .u8 r.op.l, .int .u32 r.op.c, .int .u8 r.op.k, .int .i64 r.op.s, .int .u8 r.op.fl, .int .u32 r.op.fc, .int .u8 r.op.fk, .int .i64 r.op.fn, .int .i64 r.op.fm, .int .u8 r.op.al, .int .u32 r.op.ac, .int .u8 r.op.ak, .int .i64 r.op.an, .int .u8 r.op.tl, .int .u32 r.op.tc, .slice A n c, .int .i64 r.co, .int .i64 r.gr.u, .int .u8 r.gr.l, .int .u32 r.gr.c, .bool r.gr.ok]] w (RetRdL w (tailR r) 7) := by
  have xa := boxR_new w r A n c 88
  have hb := below1 w (.cells (#[.int .u8 r.kd, .int .i64 r.us, .int .u8 r.op.kd, .int .u8 r.op.l, .int .u32 r.op.c, .int .u8 r.op.k, .int .i64 r.op.s, .int .u8 r.op.fl, .int .u32 r.op.fc, .int .u8 r.op.fk, .int .i64 r.op.fn, .int .i64 r.op.fm, .int .u8 r.op.al, .int .u32 r.op.ac, .int .u8 r.op.ak, .int .i64 r.op.an, .int .u8 r.op.tl, .int .u32 r.op.tc, .slice A n c, .int .i64 r.co, .int .i64 r.gr.u, .int .u8 r.gr.l, .int .u32 r.gr.c, .bool r.gr.ok]) 88)
  have HP := hid (show pb r.gr = tailR r ∧ (tailR r).length = 7 ∧ er (mayG r.gr) = 0 by rw [tail_3 k1, pb, if_pos hm, hm]; exact ⟨rfl, gby_length _ _ _ _, rfl⟩)
  have d1 : (r.kd == 1) = false := by simpa using (show ¬ r.kd = 1 by omega)
  have d2 : (r.kd == 2) = false := by simpa using (show ¬ r.kd = 2 by omega)
  have d3 : (r.kd == 3) = true := by simpa using k1
  have HG := hid hmr.gr
  clear k1 hmr hm
  go_enter Tryz.func56, Tryz.ntmps56
  have one : True := trivial
  go_wp2_with (first
    | (clear one; refine wpList_load_rg rfl (.tmp 47) rfl w.heap.size rfl xa ?_)
    | (go_at_call 83; refine (gput_j (tailR r) 7 0 r.gr HG HP _).mono ?_; rintro e w2 ⟨A2, c2, rfl, hr2, b2⟩; have hb2 := below_in hb b2; clear xa))
  go_ret
  exact ⟨A2, c2, rfl, hr2, hb2⟩

theorem content_of (m : Nat) (r : Rec) (A : Option Addr) (n c : Nat) (hn : Hid (r.op.row.length = n)) (hmr : Recr r) (hm : mayR r = true) (ht : Hid ((tailR r).length = m)) (w : World) (hr : Ri w A c r.op.row) :
    Calls Tryz.prog 56 #[.agg #[.int .u8 r.kd, .int .i64 r.us, .int .u8 r.op.kd, .int .u8 r.op.l, .int .u32 r.op.c, .int .u8 r.op.k, .int .i64 r.op.s, .int .u8 r.op.fl, .int .u32 r.op.fc, .int .u8 r.op.fk, .int .i64 r.op.fn, .int .i64 r.op.fm, .int .u8 r.op.al, .int .u32 r.op.ac, .int .u8 r.op.ak, .int .i64 r.op.an, .int .u8 r.op.tl, .int .u32 r.op.tc, .slice A n c, .int .i64 r.co, .int .i64 r.gr.u, .int .u8 r.gr.l, .int .u32 r.gr.c, .bool r.gr.ok]] w (RetRdL w (tailR r) m) := by
  have h := ht.out
  rcases mayR_cases hm with ⟨x, y, z, us, rfl, h1, h2, h3⟩ | ⟨p, co, rfl, h1, h2, h3, h4⟩ | ⟨g, rfl, h1⟩
  · have e : m = 7 := by rw [← h]; show (hB x y z ++ nB 1 us).length = 7; simp [hB_length, nB_length]
    subst e
    exact content_1 _ A n c hmr rfl h1 h2 h3 w
  · obtain ⟨k, hk⟩ : ∃ k, (opb p).length = k := ⟨_, rfl⟩
    have e : m = 2 + k := by rw [← h]; show (nB 2 co ++ opb p).length = 2 + k; rw [List.length_append, nB_length, hk]
    have := opb_length h1
    subst e
    exact content_2 k _ A n c hn hmr rfl h3 h4 h1 (hid hk) (by omega) w hr
  · have e : m = 7 := by rw [← h]; show (gby g.u.toNat g.ok g.l.toNat g.c.toNat).length = 7; simp [gby_length]
    subst e
    exact content_3 _ A n c hmr rfl h1 w

/-! ### Pieces -/
theorem own_kd9 (V : World) (base : Nat) (hb : base ≤ V.heap.size) {z : Int} (h0 : 0 ≤ z) (h1 : z ≤ 255) : Own (V.alloc (.cells #[.int .u8 z] 5)) base 5 (some ⟨V.heap.size, 0, none⟩) 1 (nB 1 z) := by
  have e : ((UInt8.ofNat z.toNat).toNat : Int) = z := by rw [ofNat_toNat (by omega)]; omega
  rw [nB_one h0 h1]
  exact own_one V base V.heap.size rfl hb z _ (hid e.symm)
theorem chunk9_any (A : Option Addr) (n c : Nat) (w : World) :
    Calls Tryz.prog 57 #[.slice A n c, .int .i64 119] w fun e w' => e = .returned (.func (.func 84) #[] #[.pointer (some ⟨w.heap.size, 0, none⟩), .pointer (some ⟨w.heap.size + 1, 0, none⟩)]) ∧ w' = (w.alloc (.cells #[.slice A n c] 51)).alloc (.cells #[.int .i64 119] 3) := by
  go_enter Tryz.func57, Tryz.ntmps57
  go_wp2
  go_ret
  exact ⟨by simp, rfl⟩
/-- A record's bytes lie in the iterator's first box, 119 in its second. -/
def RetPc (w : World) (l : List UInt8) (m : Nat) (e : Ending) (w' : World) : Prop :=
  ∃ (s t : Nat) (A : Option Addr) (c : Nat), e = .returned (.func (.func 84) #[] #[.pointer (some ⟨s, 0, none⟩), .pointer (some ⟨t, 0, none⟩)]) ∧ w.heap.size ≤ s ∧ s < t ∧ t < w'.heap.size ∧ Boxed w' s 51 (.slice A m c) ∧ Boxed w' t 3 (.int .i64 119) ∧ Rd w' A c l ∧ Below w.heap.size w w'
theorem fin_pieces {w W V : World} {l L : List UInt8} {m : Nat} {A : Option Addr} {c : Nat} (he : l = L) (ho : Own V W.heap.size 5 A c l) (hb : Below w.heap.size w V) (hw : w.heap.size ≤ W.heap.size) :
    RetPc w L m (.returned (.func (.func 84) #[] #[.pointer (some ⟨V.heap.size, 0, none⟩), .pointer (some ⟨V.heap.size + 1, 0, none⟩)])) ((V.alloc (.cells #[.slice A m c] 51)).alloc (.cells #[.int .i64 119] 3)) := by
  subst he
  have bS := (Boxed.new V 51 (.slice A m c)).alloc (.cells #[.int .i64 119] 3)
  have bN := Boxed.new (V.alloc (.cells #[.slice A m c] 51)) 3 (.int .i64 119)
  rw [World.size_alloc] at bN
  exact ⟨V.heap.size, V.heap.size + 1, A, c, rfl, hb.size, by omega, by simp, bS, bN, (ho.rd.alloc _).alloc _, below_in hb (below2 V _ _)⟩

set_option maxRecDepth 100000 in
set_option maxHeartbeats 6400000 in
theorem pieces_of (m : Nat) (r : Rec) (A : Option Addr) (n c : Nat) (hn : Hid (r.op.row.length = n)) (hmr : Recr r) (hm : mayR r = true) (ht : Hid ((tailR r).length = m)) (w : World) (hr : Ri w A c r.op.row) :
    Calls Tryz.prog 36 #[.agg #[.int .u8 r.kd, .int .i64 r.us, .int .u8 r.op.kd, .int .u8 r.op.l, .int .u32 r.op.c, .int .u8 r.op.k, .int .i64 r.op.s, .int .u8 r.op.fl, .int .u32 r.op.fc, .int .u8 r.op.fk, .int .i64 r.op.fn, .int .i64 r.op.fm, .int .u8 r.op.al, .int .u32 r.op.ac, .int .u8 r.op.ak, .int .i64 r.op.an, .int .u8 r.op.tl, .int .u32 r.op.tc, .slice A n c, .int .i64 r.co, .int .i64 r.gr.u, .int .u8 r.gr.l, .int .u32 r.gr.c, .bool r.gr.ok]] w (RetPc w (rcb r) (1 + m)) := by
  obtain ⟨i0, hi0, hz0, hz1, hz2⟩ := info_parts info_u8
  have h5 : m ≤ 300 := by have := rcb_length hm; have := ht.out; rw [rcb, List.length_append, nB_length] at *; omega
  have xa := boxR_new w r A n c 40
  have hbw := below1 w (.cells (#[.int .u8 r.kd, .int .i64 r.us, .int .u8 r.op.kd, .int .u8 r.op.l, .int .u32 r.op.c, .int .u8 r.op.k, .int .i64 r.op.s, .int .u8 r.op.fl, .int .u32 r.op.fc, .int .u8 r.op.fk, .int .i64 r.op.fn, .int .i64 r.op.fm, .int .u8 r.op.al, .int .u32 r.op.ac, .int .u8 r.op.ak, .int .i64 r.op.an, .int .u8 r.op.tl, .int .u32 r.op.tc, .slice A n c, .int .i64 r.co, .int .i64 r.gr.u, .int .u8 r.gr.l, .int .u32 r.gr.c, .bool r.gr.ok]) 40)
  have HR := hid hr
  have HT := ht
  have HE := hid (show nB 1 r.kd ++ tailR r = rcb r from rfl)
  clear hr
  go_enter Tryz.func36, Tryz.ntmps36
  go_wp2_with fail
  generalize World.alloc w _ = W at xa hbw ⊢
  have sA : Below W.heap.size W W.drew := (Below.refl _ _).drew
  refine wp_region_held_drew (S := fun w' => Below W.heap.size W w') (by kernel_rfl) sA (fun hHeld => ?_)
  generalize W.drew = V at *
  refine wpAnyH_take (i := 0) (oi := { dst := some 4, op := Op.fieldAddr 40 (Operand.tmp 1) 0, type := 0, pos := "record.go:180", after := #[], guard := none }) (v := ?_) rfl (by kernel_rfl) (by kernel_rfl) (by kernel_rfl) (fun _ _ _ h => h) (Or.inl ⟨by rfl, ?_⟩) hHeld ?_
  rotate_left
  · intro w9 hSw
    (try dsimp only at hSw)
    go_simp <;> with_reducible rfl
  (try simp only [Act.put, List.setIfInBounds_toArray, List.set_cons_zero, List.set_cons_succ])
  refine wpAnyH_take (i := 1) (oi := { dst := some 5, op := Op.load 5 (Operand.tmp 4), type := 5, pos := "record.go:180", after := #[{ on := 0, ground := Ground.data }], guard := none }) (v := ?_) rfl (by kernel_rfl) (by kernel_rfl) (by kernel_rfl) (fun _ _ _ h => h) (Or.inl ⟨by rfl, ?_⟩) hHeld ?_
  rotate_left
  · intro w9 hSw
    (try dsimp only at hSw)
    have y := (xa.keep hSw).k
    go_simp <;> with_reducible rfl
  (try simp only [Act.put, List.setIfInBounds_toArray, List.set_cons_zero, List.set_cons_succ])
  refine wpAnyH_take (i := 3) (oi := { dst := some 7, op := Op.load 40 (Operand.tmp 1), type := 40, pos := "record.go:180", after := #[], guard := none }) rfl (by kernel_rfl) (by kernel_rfl) (by kernel_rfl) (fun _ _ _ h => h) (yields_load_r (by rfl) (.tmp 1) rfl w.heap.size rfl (fun w9 h => xa.keep h)) hHeld ?_
  (try simp only [Act.put, List.setIfInBounds_toArray, List.set_cons_zero, List.set_cons_succ])
  refine wpAnyH_take (i := 4) (oi := { dst := some 8, op := Op.build 88 #[(0, Operand.tmp 7)], type := 88, pos := "record.go:180", after := #[{ on := 3, ground := Ground.data }], guard := none }) (v := ?_) rfl (by kernel_rfl) (by kernel_rfl) (by kernel_rfl) (fun _ _ _ h => h) (Or.inl ⟨by rfl, ?_⟩) hHeld ?_
  rotate_left
  · intro w9 hSw
    (try dsimp only at hSw)
    refine run_build_lg r A n c _ 7 _ ?_ ?_ w9 <;> rfl
  (try simp only [Act.put, List.setIfInBounds_toArray, List.set_cons_zero, List.set_cons_succ])
  refine wpAnyH_ready (rs := [2, 5]) (by kernel_rfl) (by simp) ?_
  refine AllReadyH.cons rfl (fun K hK => ?_) (AllReadyH.cons rfl (fun K hK => ?_) AllReadyH.nil)
  · -- the literal first
    go_simp
    go_wp2
    have sB : Below W.heap.size W (V.alloc (.cells #[.int .u8 r.kd] 5)) := sA.alloc sA.size _
    refine hK.out _ _ sB (fun hHeld => ?_)
    clear hK K
    refine wpAnyH_ready (rs := [5]) (by kernel_rfl) (by simp) ?_
    refine AllReadyH.cons rfl (fun K hK => ?_) AllReadyH.nil
    go_simp
    go_wp2_with (go_at_call 56; refine (content_of m r A n c hn hmr hm HT _ (HR.out.keep (below_in hbw sB))).mono ?_; rintro e w1 ⟨A1, c1, rfl, hr1, b1⟩)
    have s1 := below_in sB b1
    refine hK.out _ _ s1 (fun hHeld => ?_)
    clear hK K
    refine wpAnyH_ready (rs := [6]) (by kernel_rfl) (by simp) ?_
    refine AllReadyH.cons rfl (fun K hK => ?_) AllReadyH.nil
    refine step_append_rd rfl (.tmp 6) (.tmp 9) _ (by rfl) W.heap.size 5 Tryz.underlying51 hi0 hz0 hz1 hz2 (some ⟨V.heap.size, 0, none⟩) 1 1 (nB 1 r.kd) (hid (nB_length _ _)) (by rfl) ((own_kd9 V W.heap.size sA.size hmr.k0 hmr.k1).keep b1) A1 m c1 (tailR r) HT (by rfl) hr1 (by omega) s1.size ?_
    intro A9 c9 w2 ho9 b2
    have s9 := s1.trans b2
    refine hK.out _ _ s9 (fun hHeld => ?_)
    clear hK K
    refine wpAnyH_take (i := 7) (oi := { dst := some 3, op := Op.assign (Operand.tmp 10), type := 51, pos := "record.go:180", after := #[{ on := 6, ground := Ground.data }, { on := 6, ground := Ground.chain }, { on := 0, ground := Ground.phase }, { on := 1, ground := Ground.phase }, { on := 2, ground := Ground.phase }, { on := 3, ground := Ground.phase }, { on := 4, ground := Ground.phase }, { on := 5, ground := Ground.phase }, { on := 6, ground := Ground.phase }], guard := none }) (v := ?_) rfl (by kernel_rfl) (by kernel_rfl) (by kernel_rfl) (fun _ _ _ h => h) (Or.inl ⟨by rfl, ?_⟩) hHeld ?_
    rotate_left
    · intro w9 hSw
      (try dsimp only at hSw)
      go_simp <;> with_reducible rfl
    (try simp only [Act.put, List.setIfInBounds_toArray, List.set_cons_zero, List.set_cons_succ])
    refine wpAnyH_done (by kernel_rfl) ?_ _
    clear hHeld
    go_wp2_with fail
    refine (chunk9_any A9 (1 + m) c9 _).mono ?_
    rintro e w9 ⟨rfl, rfl⟩
    go_wp2
    go_ret
    exact fin_pieces HE.out ho9 (below_in hbw s9) hbw.size
  · -- the call first
    go_simp
    go_wp2_with (go_at_call 56; refine (content_of m r A n c hn hmr hm HT _ (HR.out.keep (below_in hbw sA))).mono ?_; rintro e w1 ⟨A1, c1, rfl, hr1, b1⟩)
    have s1 := below_in sA b1
    refine hK.out _ _ s1 (fun hHeld => ?_)
    clear hK K
    refine wpAnyH_ready (rs := [2]) (by kernel_rfl) (by simp) ?_
    refine AllReadyH.cons rfl (fun K hK => ?_) AllReadyH.nil
    go_simp
    go_wp2
    have sB : Below W.heap.size W (w1.alloc (.cells #[.int .u8 r.kd] 5)) := s1.alloc s1.size _
    refine hK.out _ _ sB (fun hHeld => ?_)
    clear hK K
    refine wpAnyH_ready (rs := [6]) (by kernel_rfl) (by simp) ?_
    refine AllReadyH.cons rfl (fun K hK => ?_) AllReadyH.nil
    refine step_append_rd rfl (.tmp 6) (.tmp 9) _ (by rfl) W.heap.size 5 Tryz.underlying51 hi0 hz0 hz1 hz2 (some ⟨w1.heap.size, 0, none⟩) 1 1 (nB 1 r.kd) (hid (nB_length _ _)) (by rfl) (own_kd9 w1 W.heap.size s1.size hmr.k0 hmr.k1) A1 m c1 (tailR r) HT (by rfl) (hr1.alloc _) (by omega) sB.size ?_
    intro A9 c9 w2 ho9 b2
    have s9 := sB.trans b2
    refine hK.out _ _ s9 (fun hHeld => ?_)
    clear hK K
    refine wpAnyH_take (i := 7) (oi := { dst := some 3, op := Op.assign (Operand.tmp 10), type := 51, pos := "record.go:180", after := #[{ on := 6, ground := Ground.data }, { on := 6, ground := Ground.chain }, { on := 0, ground := Ground.phase }, { on := 1, ground := Ground.phase }, { on := 2, ground := Ground.phase }, { on := 3, ground := Ground.phase }, { on := 4, ground := Ground.phase }, { on := 5, ground := Ground.phase }, { on := 6, ground := Ground.phase }], guard := none }) (v := ?_) rfl (by kernel_rfl) (by kernel_rfl) (by kernel_rfl) (fun _ _ _ h => h) (Or.inl ⟨by rfl, ?_⟩) hHeld ?_
    rotate_left
    · intro w9 hSw
      (try dsimp only at hSw)
      go_simp <;> with_reducible rfl
    (try simp only [Act.put, List.setIfInBounds_toArray, List.set_cons_zero, List.set_cons_succ])
    refine wpAnyH_done (by kernel_rfl) ?_ _
    clear hHeld
    go_wp2_with fail
    refine (chunk9_any A9 (1 + m) c9 _).mono ?_
    rintro e w9 ⟨rfl, rfl⟩
    go_wp2
    go_ret
    exact fin_pieces HE.out ho9 (below_in hbw s9) hbw.size
end Go.Proofs.YtndmblhkmgnpcaaGreat
