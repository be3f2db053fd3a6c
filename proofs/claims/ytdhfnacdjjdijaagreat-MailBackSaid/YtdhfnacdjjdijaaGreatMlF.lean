/-
  Whether mail of a kind may be: the closures that tell it.
-/
import Derived.Test.YtdhfnacdjjdijaaGreatMlE
namespace Go.Proofs.YtdhfnacdjjdijaaGreat
open Go.RowKit
set_option linter.unusedVariables false
set_option linter.unusedSimpArgs false

set_option maxHeartbeats 800000 in
theorem may_open (q : Bool) (m : Mld) (A : Option Addr) (n c : Nat) (hq : Hid (mayK 1 m = q)) (w : World) :
    Calls Tryz.prog 60 #[.agg #[.int .u8 m.kd, .int .i64 m.us, .int .i64 m.se, .int .i64 m.co, .int .i64 m.fr, .int .i64 m.tt, .int .u8 m.ak, .int .i64 m.t0, .int .i64 m.t1, .int .i64 m.t2, .int .i64 m.t3, .slice A n c]] w fun e w' => e = .returned (.bool q) ∧ Below w.heap.size w w' := by
  have HQ : Hid ((decide (0 ≤ m.us) && decide (m.us < 256)) = q) := hq
  go_enter Tryz.func60, Tryz.ntmps60
  go_wp2_with (go_at_call 61; refine (below_of q m.us 256 HQ _).mono ?_; rintro e w' ⟨rfl, rfl⟩)
  go_ret
  exact ⟨rfl, by go_grown⟩
set_option maxHeartbeats 800000 in
theorem may_pull (q : Bool) (m : Mld) (A : Option Addr) (n c : Nat) (hq : Hid (mayK 3 m = q)) (w : World) :
    Calls Tryz.prog 74 #[.agg #[.int .u8 m.kd, .int .i64 m.us, .int .i64 m.se, .int .i64 m.co, .int .i64 m.fr, .int .i64 m.tt, .int .u8 m.ak, .int .i64 m.t0, .int .i64 m.t1, .int .i64 m.t2, .int .i64 m.t3, .slice A n c]] w fun e w' => e = .returned (.bool q) ∧ Below w.heap.size w w' := by
  have HQ : Hid (countB m.fr = q) := hq
  go_enter Tryz.func74, Tryz.ntmps74
  go_wp2_with (go_at_call 75; refine (countMay_of q m.fr HQ _).mono ?_; rintro e w' ⟨rfl, rfl⟩)
  go_ret
  exact ⟨rfl, by go_grown⟩
set_option maxHeartbeats 800000 in
theorem may_ask (q : Bool) (m : Mld) (A : Option Addr) (n c : Nat) (hq : Hid (mayK 4 m = q)) (w : World) :
    Calls Tryz.prog 79 #[.agg #[.int .u8 m.kd, .int .i64 m.us, .int .i64 m.se, .int .i64 m.co, .int .i64 m.fr, .int .i64 m.tt, .int .u8 m.ak, .int .i64 m.t0, .int .i64 m.t1, .int .i64 m.t2, .int .i64 m.t3, .slice A n c]] w fun e w' => e = .returned (.bool q) ∧ Below w.heap.size w w' := by
  have HQ : Hid (askB m.ak = q) := hq
  go_enter Tryz.func79, Tryz.ntmps79
  go_wp2_with (go_at_call 80; refine (askedMay_of q m.ak HQ _).mono ?_; rintro e w' ⟨rfl, rfl⟩)
  go_ret
  exact ⟨rfl, by go_grown⟩
set_option maxHeartbeats 800000 in
theorem may_bare (q : Bool) (m : Mld) (A : Option Addr) (n c : Nat) (hq : Hid (mayK 5 m = q)) (w : World) :
    Calls Tryz.prog 84 #[.agg #[.int .u8 m.kd, .int .i64 m.us, .int .i64 m.se, .int .i64 m.co, .int .i64 m.fr, .int .i64 m.tt, .int .u8 m.ak, .int .i64 m.t0, .int .i64 m.t1, .int .i64 m.t2, .int .i64 m.t3, .slice A n c]] w fun e w' => e = .returned (.bool q) ∧ Below w.heap.size w w' := by
  have HQ : Hid (true = q) := hq
  go_enter Tryz.func84, Tryz.ntmps84
  go_wp2
  go_ret
  exact ⟨ret_bool HQ.out, by go_grown⟩
set_option maxHeartbeats 800000 in
theorem may_coded (q : Bool) (m : Mld) (A : Option Addr) (n c : Nat) (hq : Hid (codeB m.co = q)) (w : World) :
    Calls Tryz.prog 88 #[.agg #[.int .u8 m.kd, .int .i64 m.us, .int .i64 m.se, .int .i64 m.co, .int .i64 m.fr, .int .i64 m.tt, .int .u8 m.ak, .int .i64 m.t0, .int .i64 m.t1, .int .i64 m.t2, .int .i64 m.t3, .slice A n c]] w fun e w' => e = .returned (.bool q) ∧ Below w.heap.size w w' := by
  go_enter Tryz.func88, Tryz.ntmps88
  go_wp2_with (go_at_call 89; refine (codeMay_of q m.co hq _).mono ?_; rintro e w' ⟨rfl, rfl⟩)
  go_ret
  exact ⟨rfl, by go_grown⟩
set_option maxRecDepth 100000 in
set_option maxHeartbeats 1600000 in
theorem may_answer (q : Bool) (m : Mld) (A : Option Addr) (n c : Nat) (hq : Hid (mayK 7 m = q)) (w : World) :
    Calls Tryz.prog 94 #[.agg #[.int .u8 m.kd, .int .i64 m.us, .int .i64 m.se, .int .i64 m.co, .int .i64 m.fr, .int .i64 m.tt, .int .u8 m.ak, .int .i64 m.t0, .int .i64 m.t1, .int .i64 m.t2, .int .i64 m.t3, .slice A n c]] w fun e w' => e = .returned (.bool q) ∧ Below w.heap.size w w' := by
  have h : (countB m.se && !(m.se == 0) && codeB m.co) = q := hq.out
  obtain ⟨q0, h0⟩ : ∃ q, countB m.se = q := ⟨_, rfl⟩
  obtain ⟨q1, h1⟩ : ∃ q, (m.se != 0) = q := ⟨_, rfl⟩
  obtain ⟨q2, h2⟩ : ∃ q, codeB m.co = q := ⟨_, rfl⟩
  have HQ := hid (show (q0 && q1 && q2) = q by rw [← h0, ← h1, ← h2]; exact h)
  have H0 := hid h0
  have H2 := hid h2
  clear h h0 h2 hq
  go_enter Tryz.func94, Tryz.ntmps94
  go_wp2_with (first
    | (go_at_call 75; refine (countMay_of q0 m.se H0 _).mono ?_; rintro e w' ⟨rfl, rfl⟩)
    | (go_at_call 89; refine (codeMay_of q2 m.co H2 _).mono ?_; rintro e w' ⟨rfl, rfl⟩))
  all_goals
    go_ret
    refine ⟨ret_bool ?_, by go_grown⟩
    simp [← HQ.out, *]
set_option maxRecDepth 100000 in
set_option maxHeartbeats 1600000 in
theorem may_submit (q : Bool) (m : Mld) (A : Option Addr) (n c : Nat) (hn : Hid (m.ops.length = n)) (hq : Hid (mayK 2 m = q)) (w : World) (hr : RdO w A c m.ops) :
    Calls Tryz.prog 66 #[.agg #[.int .u8 m.kd, .int .i64 m.us, .int .i64 m.se, .int .i64 m.co, .int .i64 m.fr, .int .i64 m.tt, .int .u8 m.ak, .int .i64 m.t0, .int .i64 m.t1, .int .i64 m.t2, .int .i64 m.t3, .slice A n c]] w fun e w' => e = .returned (.bool q) ∧ Below w.heap.size w w' := by
  have h : (decide (m.ops.length = 1) && opsB m.ops && plH m.ops) = q := hq.out
  have bx := boxM_new w m A n c 27
  have hb0 : Below w.heap.size w (w.alloc (.cells (#[.int .u8 m.kd, .int .i64 m.us, .int .i64 m.se, .int .i64 m.co, .int .i64 m.fr, .int .i64 m.tt, .int .u8 m.ak, .int .i64 m.t0, .int .i64 m.t1, .int .i64 m.t2, .int .i64 m.t3, .slice A n c]) 27)) := (Below.refl _ _).alloc (Nat.le_refl _) _
  have hc2 : (c : Int) ≤ 9223372036854775807 := by have := hr.cap; omega
  have hc1 : (n : Int) ≤ c := by have := hr.len; have := hn.out; omega
  have hr1 := hr.keep hb0
  by_cases h1 : n = 1
  · subst h1
    obtain ⟨l, hl⟩ : ∃ l, m.ops = l := ⟨_, rfl⟩
    rw [hl] at h hr1
    have hln : l.length = 1 := by rw [← hl]; exact hn.out
    obtain ⟨o, rfl⟩ := List.length_eq_one_iff.1 hln
    have HN : Hid ([o].length = 1) := hid rfl
    obtain ⟨q1, h1⟩ : ∃ q, opsB [o] = q := ⟨_, rfl⟩
    obtain ⟨q2, h2⟩ : ∃ q, plB o.row = q := ⟨_, rfl⟩
    have H1 := hid h1
    have H2 := hid h2
    have HQ := hid (show (q1 && q2) = q by rw [← h, ← h1, ← h2]; simp [plH, plH.plB1, plB])
    obtain ⟨k, hk⟩ : ∃ k, o.row.length = k := ⟨_, rfl⟩
    have HK := hid hk
    obtain ⟨b, of, rfl, hcell⟩ := hr1.at_ (by simp)
    obtain ⟨B, d, hR, hRi⟩ := hcell 0 (by simp)
    have hR : (w.alloc (.cells (#[.int .u8 m.kd, .int .i64 m.us, .int .i64 m.se, .int .i64 m.co, .int .i64 m.fr, .int .i64 m.tt, .int .u8 m.ak, .int .i64 m.t0, .int .i64 m.t1, .int .i64 m.t2, .int .i64 m.t3, .slice (some ⟨b, of, none⟩) 1 c]) 27)).rangeAt b of ([.int .u8 o.kd, .int .u8 o.l, .int .u32 o.c, .int .u8 o.k, .int .i64 o.s, .int .u8 o.fl, .int .u32 o.fc, .int .u8 o.fk, .int .i64 o.fn, .int .i64 o.fm, .int .u8 o.al, .int .u32 o.ac, .int .u8 o.ak, .int .i64 o.an, .int .u8 o.tl, .int .u32 o.tc, .slice B (o.row.length) d]) := by
      rw [show of + 0 * 17 = of by omega] at hR
      exact hR
    have hRi : Ri (w.alloc (.cells (#[.int .u8 m.kd, .int .i64 m.us, .int .i64 m.se, .int .i64 m.co, .int .i64 m.fr, .int .i64 m.tt, .int .u8 m.ak, .int .i64 m.t0, .int .i64 m.t1, .int .i64 m.t2, .int .i64 m.t3, .slice (some ⟨b, of, none⟩) 1 c]) 27)) B d o.row := hRi
    rw [hk] at hR
    have HR := hid hr1
    clear h hl hn hq h1 h2 hk hcell hr hr1 hln
    go_enter Tryz.func66, Tryz.ntmps66
    go_wp2_with fail
    refine (opsMay_of q1 _ 1 c [o] HN H1 _ HR.out).mono ?_
    rintro e w1 ⟨rfl, b1⟩
    have bx1 := bx.keep b1
    have e11 := bx1.c11
    have hR1 := range_keep hR b1
    have hRi1 := hRi.keep b1
    replace b1 := below_in hb0 b1
    clear bx hR hRi HR bx1 hb0
    cases q1
    · go_wp2
      go_ret
      exact ⟨ret_bool HQ.out, b1⟩
    · go_wp2_with (refine wpList_load_e rfl (.tmp 15) rfl b _ rfl hR1 ?_)
      refine (plain_of q2 o B k d HK H2 _ hRi1).mono ?_
      rintro e w2 ⟨rfl, b2⟩
      replace b2 := below_in b1 b2
      go_wp2
      go_ret
      exact ⟨ret_bool HQ.out, b2⟩
  · have d1 : ((n : Int) == 1) = false := by simpa using (show ¬ (n : Int) = 1 by omega)
    have HQ := hid (show false = q by rw [← h, decide_eq_false (by rw [hn.out]; exact h1)]; rfl)
    clear h hn hq h1 hr hr1 bx
    go_enter Tryz.func66, Tryz.ntmps66
    go_wp2
    go_ret
    exact ⟨ret_bool HQ.out, by go_grown⟩
set_option maxRecDepth 100000 in
set_option maxHeartbeats 1600000 in
theorem may_page (q : Bool) (m : Mld) (A : Option Addr) (n c : Nat) (hn : Hid (m.ops.length = n)) (hq : Hid (mayK 8 m = q)) (w : World) (hr : RdO w A c m.ops) :
    Calls Tryz.prog 98 #[.agg #[.int .u8 m.kd, .int .i64 m.us, .int .i64 m.se, .int .i64 m.co, .int .i64 m.fr, .int .i64 m.tt, .int .u8 m.ak, .int .i64 m.t0, .int .i64 m.t1, .int .i64 m.t2, .int .i64 m.t3, .slice A n c]] w fun e w' => e = .returned (.bool q) ∧ Below w.heap.size w w' := by
  have h : (countB m.fr && countB m.tt && decide (m.ops.length ≤ 3) && opsB m.ops) = q := hq.out
  have hb0 : Below w.heap.size w (w.alloc (.cells (#[.int .u8 m.kd, .int .i64 m.us, .int .i64 m.se, .int .i64 m.co, .int .i64 m.fr, .int .i64 m.tt, .int .u8 m.ak, .int .i64 m.t0, .int .i64 m.t1, .int .i64 m.t2, .int .i64 m.t3, .slice A n c]) 27)) := (Below.refl _ _).alloc (Nat.le_refl _) _
  have hr1 := hr.keep hb0
  have hc2 : (c : Int) ≤ 9223372036854775807 := by have := hr.cap; omega
  have hc1 : (n : Int) ≤ c := by have := hr.len; have := hn.out; omega
  obtain ⟨q0, h0⟩ : ∃ q, countB m.fr = q := ⟨_, rfl⟩
  obtain ⟨q1, h1⟩ : ∃ q, countB m.tt = q := ⟨_, rfl⟩
  obtain ⟨q2, h2⟩ : ∃ q, decide ((n : Int) ≤ 3) = q := ⟨_, rfl⟩
  obtain ⟨q3, h3⟩ : ∃ q, opsB m.ops = q := ⟨_, rfl⟩
  have HQ := hid (show (q0 && q1 && q2 && q3) = q by rw [← h0, ← h1, ← h2, ← h3, ← h, hn.out]; congr 2; rw [decide_eq_decide]; omega)
  have H0 := hid h0
  have H1 := hid h1
  have H3 := hid h3
  have HR := hid hr1
  clear h h0 h1 h3 hq hr hr1
  go_enter Tryz.func98, Tryz.ntmps98
  go_wp2_with (first
    | (go_at_call 75; refine (countMay_of q0 m.fr H0 _).mono ?_; rintro e w' ⟨rfl, rfl⟩)
    | (go_at_call 75; refine (countMay_of q1 m.tt H1 _).mono ?_; rintro e w' ⟨rfl, rfl⟩)
    | (go_at_call 67; refine (opsMay_of q3 A n c m.ops hn H3 _ HR.out).mono ?_; rintro e w1 ⟨rfl, b1⟩; replace b1 := below_in hb0 b1))
  all_goals
    go_ret
    refine ⟨ret_bool ?_, by first | exact b1 | exact hb0⟩
    simp [← HQ.out, *]
set_option maxRecDepth 100000 in
set_option maxHeartbeats 1600000 in
theorem may_told (q : Bool) (m : Mld) (A : Option Addr) (n c : Nat) (hq : Hid (mayK 9 m = q)) (w : World) :
    Calls Tryz.prog 103 #[.agg #[.int .u8 m.kd, .int .i64 m.us, .int .i64 m.se, .int .i64 m.co, .int .i64 m.fr, .int .i64 m.tt, .int .u8 m.ak, .int .i64 m.t0, .int .i64 m.t1, .int .i64 m.t2, .int .i64 m.t3, .slice A n c]] w fun e w' => e = .returned (.bool q) ∧ Below w.heap.size w w' := by
  have h : (askB m.ak && (countB m.t0 && countB m.t1 && countB m.t2 && countB m.t3)) = q := hq.out
  have bx := boxM_new w m A n c 27
  obtain ⟨q0, h0⟩ : ∃ q, askB m.ak = q := ⟨_, rfl⟩
  obtain ⟨q1, h1⟩ : ∃ q, [m.t0, m.t1, m.t2, m.t3].all countB = q := ⟨_, rfl⟩
  have HQ := hid (show (q0 && q1) = q by rw [← h0, ← h1, ← h]; simp [Bool.and_assoc])
  have H0 := hid h0
  have H1 := hid h1
  have HC := hid (show ∀ j (h : j < [m.t0, m.t1, m.t2, m.t3].length), (w.alloc (.cells (#[.int .u8 m.kd, .int .i64 m.us, .int .i64 m.se, .int .i64 m.co, .int .i64 m.fr, .int .i64 m.tt, .int .u8 m.ak, .int .i64 m.t0, .int .i64 m.t1, .int .i64 m.t2, .int .i64 m.t3, .slice A n c]) 27)).cell? ⟨w.heap.size, 7 + j, none⟩ = some (.int .i64 [m.t0, m.t1, m.t2, m.t3][j]) from fun j hj => by
    match j, hj with
    | 0, _ => exact bx.c7
    | 1, _ => exact bx.c8
    | 2, _ => exact bx.c9
    | 3, _ => exact bx.c10)
  clear h h0 h1 hq bx
  go_enter Tryz.func103, Tryz.ntmps103
  go_wp2_with (first
    | (go_at_call 80; refine (askedMay_of q0 m.ak H0 _).mono ?_; rintro e w' ⟨rfl, rfl⟩)
    | (go_at_call 105; refine (containsN_of q1 w.heap.size 7 4 4 _ (hid rfl) H1 (by omega) (by omega) _ HC.out).mono ?_; rintro e w' ⟨rfl, rfl⟩))
  all_goals
    go_ret
    refine ⟨ret_bool ?_, by go_grown⟩
    simp [← HQ.out, *]
end Go.Proofs.YtdhfnacdjjdijaaGreat
