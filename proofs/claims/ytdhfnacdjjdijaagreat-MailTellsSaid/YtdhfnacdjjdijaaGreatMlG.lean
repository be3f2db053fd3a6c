/-
  Mail's bytes behind its kind: the closures that tell them.
-/
import Derived.Test.YtdhfnacdjjdijaaGreatMlE
import Derived.Deep.RegionHeldLaw
namespace Go.Proofs.YtdhfnacdjjdijaaGreat
open Go.RowKit
set_option linter.unusedVariables false
set_option linter.unusedSimpArgs false

set_option maxHeartbeats 800000 in
theorem may_open (q : Bool) (m : Mld) (A : Option Addr) (n c : Nat) (hq : Hid (mayK 1 m = q)) (w : World) :
    Calls Tryz.prog 60 #[.agg #[.int .u8 m.kd, .int .i64 m.us, .int .i64 m.se, .int .i64 m.co, .int .i64 m.fr, .int .i64 m.tt, .int .u8 m.ak, .int .i64 m.t0, .int .i64 m.t1, .int .i64 m.t2, .int .i64 m.t3, .slice A n c]] w fun e w' => e = .returned (.bool q) ∧ Below w.heap.size w w' := by
  have HQ : Hid ((decide (0 ≤ m.us) && decide (m.us < 256)) = q) := hq
  go_enter Tryz.func60, Tryz.ntmps60
  go_wp2_with (go_at_call 61; refine (below_of q m.us 256 HQ _).mono ?_; rintro e w' ⟨rfl, rfl⟩)
  go_ret
  exact ⟨rfl, by go_grown⟩
set_option maxHeartbeats 800000 in
theorem may_pull (q : Bool) (m : Mld) (A : Option Addr) (n c : Nat) (hq : Hid (mayK 3 m = q)) (w : World) :
    Calls Tryz.prog 74 #[.agg #[.int .u8 m.kd, .int .i64 m.us, .int .i64 m.se, .int .i64 m.co, .int .i64 m.fr, .int .i64 m.tt, .int .u8 m.ak, .int .i64 m.t0, .int .i64 m.t1, .int .i64 m.t2, .int .i64 m.t3, .slice A n c]] w fun e w' => e = .returned (.bool q) ∧ Below w.heap.size w w' := by
  have HQ : Hid (countB m.fr = q) := hq
  go_enter Tryz.func74, Tryz.ntmps74
  go_wp2_with (go_at_call 75; refine (countMay_of q m.fr HQ _).mono ?_; rintro e w' ⟨rfl, rfl⟩)
  go_ret
  exact ⟨rfl, by go_grown⟩
set_option maxHeartbeats 800000 in
theorem may_ask (q : Bool) (m : Mld) (A : Option Addr) (n c : Nat) (hq : Hid (mayK 4 m = q)) (w : World) :
    Calls Tryz.prog 79 #[.agg #[.int .u8 m.kd, .int .i64 m.us, .int .i64 m.se, .int .i64 m.co, .int .i64 m.fr, .int .i64 m.tt, .int .u8 m.ak, .int .i64 m.t0, .int .i64 m.t1, .int .i64 m.t2, .int .i64 m.t3, .slice A n c]] w fun e w' => e = .returned (.bool q) ∧ Below w.heap.size w w' := by
  have HQ : Hid (askB m.ak = q) := hq
  go_enter Tryz.func79, Tryz.ntmps79
  go_wp2_with (go_at_call 80; refine (askedMay_of q m.ak HQ _).mono ?_; rintro e w' ⟨rfl, rfl⟩)
  go_ret
  exact ⟨rfl, by go_grown⟩
set_option maxHeartbeats 800000 in
theorem may_bare (q : Bool) (m : Mld) (A : Option Addr) (n c : Nat) (hq : Hid (mayK 5 m = q)) (w : World) :
    Calls Tryz.prog 84 #[.agg #[.int .u8 m.kd, .int .i64 m.us, .int .i64 m.se, .int .i64 m.co, .int .i64 m.fr, .int .i64 m.tt, .int .u8 m.ak, .int .i64 m.t0, .int .i64 m.t1, .int .i64 m.t2, .int .i64 m.t3, .slice A n c]] w fun e w' => e = .returned (.bool q) ∧ Below w.heap.size w w' := by
  have HQ : Hid (true = q) := hq
  go_enter Tryz.func84, Tryz.ntmps84
  go_wp2
  go_ret
  exact ⟨ret_bool HQ.out, by go_grown⟩
set_option maxHeartbeats 800000 in
theorem may_coded (q : Bool) (m : Mld) (A : Option Addr) (n c : Nat) (hq : Hid (codeB m.co = q)) (w : World) :
    Calls Tryz.prog 88 #[.agg #[.int .u8 m.kd, .int .i64 m.us, .int .i64 m.se, .int .i64 m.co, .int .i64 m.fr, .int .i64 m.tt, .int .u8 m.ak, .int .i64 m.t0, .int .i64 m.t1, .int .i64 m.t2, .int .i64 m.t3, .slice A n c]] w fun e w' => e = .returned (.bool q) ∧ Below w.heap.size w w' := by
  go_enter Tryz.func88, Tryz.ntmps88
  go_wp2_with (go_at_call 89; refine (codeMay_of q m.co hq _).mono ?_; rintro e w' ⟨rfl, rfl⟩)
  go_ret
  exact ⟨rfl, by go_grown⟩
set_option maxRecDepth 100000 in
set_option maxHeartbeats 1600000 in
theorem may_answer (q : Bool) (m : Mld) (A : Option Addr) (n c : Nat) (hq : Hid (mayK 7 m = q)) (w : World) :
    Calls Tryz.prog 94 #[.agg #[.int .u8 m.kd, .int .i64 m.us, .int .i64 m.se, .int .i64 m.co, .int .i64 m.fr, .int .i64 m.tt, .int .u8 m.ak, .int .i64 m.t0, .int .i64 m.t1, .int .i64 m.t2, .int .i64 m.t3, .slice A n c]] w fun e w' => e = .returned (.bool q) ∧ Below w.heap.size w w' := by
  have h : (countB m.se && !(m.se == 0) && codeB m.co) = q := hq.out
  obtain ⟨q0, h0⟩ : ∃ q, countB m.se = q := ⟨_, rfl⟩
  obtain ⟨q1, h1⟩ : ∃ q, (m.se != 0) = q := ⟨_, rfl⟩
  obtain ⟨q2, h2⟩ : ∃ q, codeB m.co = q := ⟨_, rfl⟩
  have HQ := hid (show (q0 && q1 && q2) = q by rw [← h0, ← h1, ← h2]; exact h)
  have H0 := hid h0
  have H2 := hid h2
  clear h h0 h2 hq
  go_enter Tryz.func94, Tryz.ntmps94
  go_wp2_with (first
    | (go_at_call 75; refine (countMay_of q0 m.se H0 _).mono ?_; rintro e w' ⟨rfl, rfl⟩)
    | (go_at_call 89; refine (codeMay_of q2 m.co H2 _).mono ?_; rintro e w' ⟨rfl, rfl⟩))
  all_goals
    go_ret
    refine ⟨ret_bool ?_, by go_grown⟩
    simp [← HQ.out, *]
set_option maxRecDepth 100000 in
set_option maxHeartbeats 1600000 in
theorem may_submit (q : Bool) (m : Mld) (A : Option Addr) (n c : Nat) (hn : Hid (m.ops.length = n)) (hq : Hid (mayK 2 m = q)) (w : World) (hr : RdO w A c m.ops) :
    Calls Tryz.prog 66 #[.agg #[.int .u8 m.kd, .int .i64 m.us, .int .i64 m.se, .int .i64 m.co, .int .i64 m.fr, .int .i64 m.tt, .int .u8 m.ak, .int .i64 m.t0, .int .i64 m.t1, .int .i64 m.t2, .int .i64 m.t3, .slice A n c]] w fun e w' => e = .returned (.bool q) ∧ Below w.heap.size w w' := by
  have h : (decide (m.ops.length = 1) && opsB m.ops && plH m.ops) = q := hq.out
  have bx := boxM_new w m A n c 27
  have hb0 : Below w.heap.size w (w.alloc (.cells (#[.int .u8 m.kd, .int .i64 m.us, .int .i64 m.se, .int .i64 m.co, .int .i64 m.fr, .int .i64 m.tt, .int .u8 m.ak, .int .i64 m.t0, .int .i64 m.t1, .int .i64 m.t2, .int .i64 m.t3, .slice A n c]) 27)) := (Below.refl _ _).alloc (Nat.le_refl _) _
  have hc2 : (c : Int) ≤ 9223372036854775807 := by have := hr.cap; omega
  have hc1 : (n : Int) ≤ c := by have := hr.len; have := hn.out; omega
  have hr1 := hr.keep hb0
  by_cases h1 : n = 1
  · subst h1
    obtain ⟨l, hl⟩ : ∃ l, m.ops = l := ⟨_, rfl⟩
    rw [hl] at h hr1
    have hln : l.length = 1 := by rw [← hl]; exact hn.out
    obtain ⟨o, rfl⟩ := List.length_eq_one_iff.1 hln
    have HN : Hid ([o].length = 1) := hid rfl
    obtain ⟨q1, h1⟩ : ∃ q, opsB [o] = q := ⟨_, rfl⟩
    obtain ⟨q2, h2⟩ : ∃ q, plB o.row = q := ⟨_, rfl⟩
    have H1 := hid h1
    have H2 := hid h2
    have HQ := hid (show (q1 && q2) = q by rw [← h, ← h1, ← h2]; simp [plH, plH.plB1, plB])
    obtain ⟨k, hk⟩ : ∃ k, o.row.length = k := ⟨_, rfl⟩
    have HK := hid hk
    obtain ⟨b, of, rfl, hcell⟩ := hr1.at_ (by simp)
    obtain ⟨B, d, hR, hRi⟩ := hcell 0 (by simp)
    have hR : (w.alloc (.cells (#[.int .u8 m.kd, .int .i64 m.us, .int .i64 m.se, .int .i64 m.co, .int .i64 m.fr, .int .i64 m.tt, .int .u8 m.ak, .int .i64 m.t0, .int .i64 m.t1, .int .i64 m.t2, .int .i64 m.t3, .slice (some ⟨b, of, none⟩) 1 c]) 27)).rangeAt b of ([.int .u8 o.kd, .int .u8 o.l, .int .u32 o.c, .int .u8 o.k, .int .i64 o.s, .int .u8 o.fl, .int .u32 o.fc, .int .u8 o.fk, .int .i64 o.fn, .int .i64 o.fm, .int .u8 o.al, .int .u32 o.ac, .int .u8 o.ak, .int .i64 o.an, .int .u8 o.tl, .int .u32 o.tc, .slice B (o.row.length) d]) := by
      rw [show of + 0 * 17 = of by omega] at hR
      exact hR
    have hRi : Ri (w.alloc (.cells (#[.int .u8 m.kd, .int .i64 m.us, .int .i64 m.se, .int .i64 m.co, .int .i64 m.fr, .int .i64 m.tt, .int .u8 m.ak, .int .i64 m.t0, .int .i64 m.t1, .int .i64 m.t2, .int .i64 m.t3, .slice (some ⟨b, of, none⟩) 1 c]) 27)) B d o.row := hRi
    rw [hk] at hR
    have HR := hid hr1
    clear h hl hn hq h1 h2 hk hcell hr hr1 hln
    go_enter Tryz.func66, Tryz.ntmps66
    go_wp2_with fail
    refine (opsMay_of q1 _ 1 c [o] HN H1 _ HR.out).mono ?_
    rintro e w1 ⟨rfl, b1⟩
    have bx1 := bx.keep b1
    have e11 := bx1.c11
    have hR1 := range_keep hR b1
    have hRi1 := hRi.keep b1
    replace b1 := below_in hb0 b1
    clear bx hR hRi HR bx1 hb0
    cases q1
    · go_wp2
      go_ret
      exact ⟨ret_bool HQ.out, b1⟩
    · go_wp2_with (refine wpList_load_e rfl (.tmp 15) rfl b _ rfl hR1 ?_)
      refine (plain_of q2 o B k d HK H2 _ hRi1).mono ?_
      rintro e w2 ⟨rfl, b2⟩
      replace b2 := below_in b1 b2
      go_wp2
      go_ret
      exact ⟨ret_bool HQ.out, b2⟩
  · have d1 : ((n : Int) == 1) = false := by simpa using (show ¬ (n : Int) = 1 by omega)
    have HQ := hid (show false = q by rw [← h, decide_eq_false (by rw [hn.out]; exact h1)]; rfl)
    clear h hn hq h1 hr hr1 bx
    go_enter Tryz.func66, Tryz.ntmps66
    go_wp2
    go_ret
    exact ⟨ret_bool HQ.out, by go_grown⟩
set_option maxRecDepth 100000 in
set_option maxHeartbeats 1600000 in
theorem may_page (q : Bool) (m : Mld) (A : Option Addr) (n c : Nat) (hn : Hid (m.ops.length = n)) (hq : Hid (mayK 8 m = q)) (w : World) (hr : RdO w A c m.ops) :
    Calls Tryz.prog 98 #[.agg #[.int .u8 m.kd, .int .i64 m.us, .int .i64 m.se, .int .i64 m.co, .int .i64 m.fr, .int .i64 m.tt, .int .u8 m.ak, .int .i64 m.t0, .int .i64 m.t1, .int .i64 m.t2, .int .i64 m.t3, .slice A n c]] w fun e w' => e = .returned (.bool q) ∧ Below w.heap.size w w' := by
  have h : (countB m.fr && countB m.tt && decide (m.ops.length ≤ 3) && opsB m.ops) = q := hq.out
  have hb0 : Below w.heap.size w (w.alloc (.cells (#[.int .u8 m.kd, .int .i64 m.us, .int .i64 m.se, .int .i64 m.co, .int .i64 m.fr, .int .i64 m.tt, .int .u8 m.ak, .int .i64 m.t0, .int .i64 m.t1, .int .i64 m.t2, .int .i64 m.t3, .slice A n c]) 27)) := (Below.refl _ _).alloc (Nat.le_refl _) _
  have hr1 := hr.keep hb0
  have hc2 : (c : Int) ≤ 9223372036854775807 := by have := hr.cap; omega
  have hc1 : (n : Int) ≤ c := by have := hr.len; have := hn.out; omega
  obtain ⟨q0, h0⟩ : ∃ q, countB m.fr = q := ⟨_, rfl⟩
  obtain ⟨q1, h1⟩ : ∃ q, countB m.tt = q := ⟨_, rfl⟩
  obtain ⟨q2, h2⟩ : ∃ q, decide ((n : Int) ≤ 3) = q := ⟨_, rfl⟩
  obtain ⟨q3, h3⟩ : ∃ q, opsB m.ops = q := ⟨_, rfl⟩
  have HQ := hid (show (q0 && q1 && q2 && q3) = q by rw [← h0, ← h1, ← h2, ← h3, ← h, hn.out]; congr 2; rw [decide_eq_decide]; omega)
  have H0 := hid h0
  have H1 := hid h1
  have H3 := hid h3
  have HR := hid hr1
  clear h h0 h1 h3 hq hr hr1
  go_enter Tryz.func98, Tryz.ntmps98
  go_wp2_with (first
    | (go_at_call 75; refine (countMay_of q0 m.fr H0 _).mono ?_; rintro e w' ⟨rfl, rfl⟩)
    | (go_at_call 75; refine (countMay_of q1 m.tt H1 _).mono ?_; rintro e w' ⟨rfl, rfl⟩)
    | (go_at_call 67; refine (opsMay_of q3 A n c m.ops hn H3 _ HR.out).mono ?_; rintro e w1 ⟨rfl, b1⟩; replace b1 := below_in hb0 b1))
  all_goals
    go_ret
    refine ⟨ret_bool ?_, by first | exact b1 | exact hb0⟩
    simp [← HQ.out, *]
set_option maxRecDepth 100000 in
set_option maxHeartbeats 1600000 in
theorem may_told (q : Bool) (m : Mld) (A : Option Addr) (n c : Nat) (hq : Hid (mayK 9 m = q)) (w : World) :
    Calls Tryz.prog 103 #[.agg #[.int .u8 m.kd, .int .i64 m.us, .int .i64 m.se, .int .i64 m.co, .int .i64 m.fr, .int .i64 m.tt, .int .u8 m.ak, .int .i64 m.t0, .int .i64 m.t1, .int .i64 m.t2, .int .i64 m.t3, .slice A n c]] w fun e w' => e = .returned (.bool q) ∧ Below w.heap.size w w' := by
  have h : (askB m.ak && (countB m.t0 && countB m.t1 && countB m.t2 && countB m.t3)) = q := hq.out
  have bx := boxM_new w m A n c 27
  obtain ⟨q0, h0⟩ : ∃ q, askB m.ak = q := ⟨_, rfl⟩
  obtain ⟨q1, h1⟩ : ∃ q, [m.t0, m.t1, m.t2, m.t3].all countB = q := ⟨_, rfl⟩
  have HQ := hid (show (q0 && q1) = q by rw [← h0, ← h1, ← h]; simp [Bool.and_assoc])
  have H0 := hid h0
  have H1 := hid h1
  have HC := hid (show ∀ j (h : j < [m.t0, m.t1, m.t2, m.t3].length), (w.alloc (.cells (#[.int .u8 m.kd, .int .i64 m.us, .int .i64 m.se, .int .i64 m.co, .int .i64 m.fr, .int .i64 m.tt, .int .u8 m.ak, .int .i64 m.t0, .int .i64 m.t1, .int .i64 m.t2, .int .i64 m.t3, .slice A n c]) 27)).cell? ⟨w.heap.size, 7 + j, none⟩ = some (.int .i64 [m.t0, m.t1, m.t2, m.t3][j]) from fun j hj => by
    match j, hj with
    | 0, _ => exact bx.c7
    | 1, _ => exact bx.c8
    | 2, _ => exact bx.c9
    | 3, _ => exact bx.c10)
  clear h h0 h1 hq bx
  go_enter Tryz.func103, Tryz.ntmps103
  go_wp2_with (first
    | (go_at_call 80; refine (askedMay_of q0 m.ak H0 _).mono ?_; rintro e w' ⟨rfl, rfl⟩)
    | (go_at_call 105; refine (containsN_of q1 w.heap.size 7 4 4 _ (hid rfl) H1 (by omega) (by omega) _ HC.out).mono ?_; rintro e w' ⟨rfl, rfl⟩))
  all_goals
    go_ret
    refine ⟨ret_bool ?_, by go_grown⟩
    simp [← HQ.out, *]
end Go.Proofs.YtdhfnacdjjdijaaGreat

namespace Go.Proofs.YtdhfnacdjjdijaaGreat
open Go.RowKit
set_option linter.unusedVariables false
set_option linter.unusedSimpArgs false

/-- The call hands back bytes. -/
def RetBs (w : World) (l : List UInt8) (n : Nat) (e : Ending) (w' : World) : Prop := ∃ A c, e = .returned (.slice A n c) ∧ Rd w' A c l ∧ Below w.heap.size w w'

/-- One number's bytes. -/
theorem dig_of (k : Nat) (v z : Int) (z0 : 0 ≤ z) (z1 : z < 16777216) (hv : v = (k : Int)) (hk : k ≤ 7) (w : World) :
    Calls Tryz.prog 63 #[.int .i64 z, .int .i64 v] w fun e w' => ∃ A, e = .returned (.slice A k k) ∧ Own w' w.heap.size 5 A k (nB k z) ∧ Below w.heap.size w w' :=
  mdigitsL_of k v z z.toNat (hid (by omega)) z0 (by omega) hv hk w

set_option maxRecDepth 100000 in
set_option maxHeartbeats 800000 in
theorem put_open (m : Mld) (A : Option Addr) (n c : Nat) (hm : mayK 1 m = true) (w : World) :
    Calls Tryz.prog 62 #[.agg #[.int .u8 m.kd, .int .i64 m.us, .int .i64 m.se, .int .i64 m.co, .int .i64 m.fr, .int .i64 m.tt, .int .u8 m.ak, .int .i64 m.t0, .int .i64 m.t1, .int .i64 m.t2, .int .i64 m.t3, .slice A n c]] w (RetBs w (tailK 1 m) 1) := by
  have h : (decide (0 ≤ m.us) && decide (m.us < 256)) = true := hm
  have h' : 0 ≤ m.us ∧ m.us < 256 := by simpa using h
  have HT : Hid (tailK 1 m = nB 1 m.us) := hid rfl
  clear h hm
  go_enter Tryz.func62, Tryz.ntmps62
  go_wp2_with fail
  refine (dig_of 1 1 m.us h'.1 (by omega) rfl (by omega) _).mono ?_
  rintro e w1 ⟨A1, rfl, ho, b1⟩
  have hb := past_alloc b1
  go_wp2
  go_ret
  exact ⟨A1, 1, rfl, by rw [HT.out]; exact ho.rd, hb⟩
set_option maxRecDepth 100000 in
set_option maxHeartbeats 800000 in
theorem put_pull (m : Mld) (A : Option Addr) (n c : Nat) (hm : mayK 3 m = true) (w : World) :
    Calls Tryz.prog 76 #[.agg #[.int .u8 m.kd, .int .i64 m.us, .int .i64 m.se, .int .i64 m.co, .int .i64 m.fr, .int .i64 m.tt, .int .u8 m.ak, .int .i64 m.t0, .int .i64 m.t1, .int .i64 m.t2, .int .i64 m.t3, .slice A n c]] w (RetBs w (tailK 3 m) 3) := by
  have h' := countB_iff.1 (show countB m.fr = true from hm)
  have HT : Hid (tailK 3 m = nB 3 m.fr) := hid rfl
  clear hm
  go_enter Tryz.func76, Tryz.ntmps76
  go_wp2_with fail
  refine (dig_of 3 3 m.fr h'.1 (by omega) rfl (by omega) _).mono ?_
  rintro e w1 ⟨A1, rfl, ho, b1⟩
  have hb := past_alloc b1
  go_wp2
  go_ret
  exact ⟨A1, 3, rfl, by rw [HT.out]; exact ho.rd, hb⟩
set_option maxRecDepth 100000 in
set_option maxHeartbeats 800000 in
theorem put_ask (m : Mld) (A : Option Addr) (n c : Nat) (hm : mayK 4 m = true) (w : World) :
    Calls Tryz.prog 81 #[.agg #[.int .u8 m.kd, .int .i64 m.us, .int .i64 m.se, .int .i64 m.co, .int .i64 m.fr, .int .i64 m.tt, .int .u8 m.ak, .int .i64 m.t0, .int .i64 m.t1, .int .i64 m.t2, .int .i64 m.t3, .slice A n c]] w (RetBs w (tailK 4 m) 1) := by
  have h' := askB_iff.1 (show askB m.ak = true from hm)
  have HT : Hid (tailK 4 m = nB 1 m.ak) := hid rfl
  have a0 : 0 ≤ m.ak := by omega
  have a1 : m.ak ≤ 2 := by omega
  have hw : IntKind.i64.wrap m.ak = m.ak := by rw [IntKind.wrap_i64]; omega
  clear hm h'
  go_enter Tryz.func81, Tryz.ntmps81
  go_wp2_with fail
  refine (dig_of 1 1 m.ak a0 (by omega) rfl (by omega) _).mono ?_
  rintro e w1 ⟨A1, rfl, ho, b1⟩
  have hb := past_alloc b1
  go_wp2
  go_ret
  exact ⟨A1, 1, rfl, by rw [HT.out]; exact ho.rd, hb⟩
set_option maxRecDepth 100000 in
set_option maxHeartbeats 800000 in
theorem put_bare (m : Mld) (A : Option Addr) (n c : Nat) (w : World) :
    Calls Tryz.prog 85 #[.agg #[.int .u8 m.kd, .int .i64 m.us, .int .i64 m.se, .int .i64 m.co, .int .i64 m.fr, .int .i64 m.tt, .int .u8 m.ak, .int .i64 m.t0, .int .i64 m.t1, .int .i64 m.t2, .int .i64 m.t3, .slice A n c]] w (RetBs w (tailK 5 m) 0) := by
  have HT : Hid (tailK 5 m = []) := hid rfl
  go_enter Tryz.func85, Tryz.ntmps85
  go_wp2
  go_ret
  exact ⟨none, 0, rfl, by rw [HT.out]; exact Rd.nil _, by go_grown⟩
set_option maxRecDepth 100000 in
set_option maxHeartbeats 800000 in
theorem put_coded (m : Mld) (A : Option Addr) (n c : Nat) (hm : codeB m.co = true) (w : World) :
    Calls Tryz.prog 90 #[.agg #[.int .u8 m.kd, .int .i64 m.us, .int .i64 m.se, .int .i64 m.co, .int .i64 m.fr, .int .i64 m.tt, .int .u8 m.ak, .int .i64 m.t0, .int .i64 m.t1, .int .i64 m.t2, .int .i64 m.t3, .slice A n c]] w (RetBs w (nB 2 m.co) 2) := by
  have h' := codeB_iff.1 hm
  have hw : IntKind.i64.wrap m.co = m.co := by rw [IntKind.wrap_i64]; omega
  clear hm
  go_enter Tryz.func90, Tryz.ntmps90
  go_wp2_with fail
  refine (dig_of 2 2 m.co h'.1 (by omega) rfl (by omega) _).mono ?_
  rintro e w1 ⟨A1, rfl, ho, b1⟩
  have hb := past_alloc b1
  go_wp2
  go_ret
  exact ⟨A1, 2, rfl, ho.rd, hb⟩
set_option maxRecDepth 100000 in
set_option maxHeartbeats 800000 in
theorem put_submit (L : Nat) (m : Mld) (A : Option Addr) (n c : Nat) (hn : Hid (m.ops.length = n)) (hr0 : ∀ o ∈ m.ops, Opr o) (hm : mayK 2 m = true) (hl : Hid ((tailK 2 m).length = L)) (w : World) (hr : RdO w A c m.ops) :
    Calls Tryz.prog 69 #[.agg #[.int .u8 m.kd, .int .i64 m.us, .int .i64 m.se, .int .i64 m.co, .int .i64 m.fr, .int .i64 m.tt, .int .u8 m.ak, .int .i64 m.t0, .int .i64 m.t1, .int .i64 m.t2, .int .i64 m.t3, .slice A n c]] w (RetBs w (tailK 2 m) L) := by
  have h : (decide (m.ops.length = 1) && opsB m.ops && plH m.ops) = true := hm
  simp only [Bool.and_eq_true, decide_eq_true_eq] at h
  have h3 : n ≤ 3 := by have := hn.out; omega
  have HO := hid h.1.2
  have HT : Hid (tailK 2 m = opsb m.ops) := hid rfl
  have HL : Hid ((opsb m.ops).length = L) := hl
  have hr1 := hr.alloc (.cells (#[.int .u8 m.kd, .int .i64 m.us, .int .i64 m.se, .int .i64 m.co, .int .i64 m.fr, .int .i64 m.tt, .int .u8 m.ak, .int .i64 m.t0, .int .i64 m.t1, .int .i64 m.t2, .int .i64 m.t3, .slice A n c]) 27)
  clear h hm hr
  go_enter Tryz.func69, Tryz.ntmps69
  go_wp2_with fail
  refine (opsBytes_of L A n c m.ops hn h3 hr0 HO.out HL _ hr1).mono ?_
  rintro e w1 ⟨A1, c1, rfl, ho, b1⟩
  have hb := past_alloc b1
  go_wp2
  go_ret
  exact ⟨A1, c1, rfl, by rw [HT.out]; exact ho.rd, hb⟩

set_option maxRecDepth 100000 in
set_option maxHeartbeats 1600000 in
theorem put_answer (m : Mld) (A : Option Addr) (n c : Nat) (hm : mayK 7 m = true) (w : World) :
    Calls Tryz.prog 95 #[.agg #[.int .u8 m.kd, .int .i64 m.us, .int .i64 m.se, .int .i64 m.co, .int .i64 m.fr, .int .i64 m.tt, .int .u8 m.ak, .int .i64 m.t0, .int .i64 m.t1, .int .i64 m.t2, .int .i64 m.t3, .slice A n c]] w (RetBs w (tailK 7 m) 5) := by
  obtain ⟨i0, hi0, hz0, hz1, hz2⟩ := info_parts info_u8
  have h : (countB m.se && !(m.se == 0) && codeB m.co) = true := hm
  simp only [Bool.and_eq_true] at h
  have h1 := countB_iff.1 h.1.1
  have h2 := codeB_iff.1 h.2
  have HT : Hid (tailK 7 m = nB 3 m.se ++ nB 2 m.co) := hid rfl
  have hw : IntKind.i64.wrap m.co = m.co := by rw [IntKind.wrap_i64]; omega
  have co9 : m.co < 16777216 := by omega
  clear h hm
  go_enter Tryz.func95, Tryz.ntmps95
  go_wp2_with fail
  generalize hW : w.alloc _ = W
  have hbW : Below w.heap.size w W := by subst hW; go_grown
  have bx : BoxM W w.heap.size m A n c := by subst hW; exact boxM_new w m A n c _
  clear hW
  have s2 := bx.c2
  have s3 := bx.c3
  have q2 := fun w' (h : Below W.heap.size W w') => keep h s2
  have q3 := fun w' (h : Below W.heap.size W w') => keep h s3
  clear s2 s3 bx
  have S0 : Below W.heap.size W W.drew := (Below.refl _ _).drew
  go_region_held_law (fun w' => Below W.heap.size W w') (with_reducible (first | assumption | exact S0 | exact below_step S0 hb1 | exact below_step S0 hb2 | exact below_step (below_step S0 hb1) hb2 | exact below_step (below_step S0 hb2) hb1 | exact (below_step (below_step S0 hb1) hb2).trans hb3 | exact (below_step (below_step S0 hb2) hb1).trans hb3))
    (first
      | (refine step_append_rd rfl (.tmp 5) (.tmp 8) _ (by rfl) W.heap.size 5 Tryz.underlying32 hi0 hz0 hz1 hz2 A1 3 3 (nB 3 m.se) (hid (nB_length _ _)) (by rfl) ((ho1.mono (Nat.le_refl _)).keep hb2) A2 2 2 (nB 2 m.co) (hid (nB_length _ _)) (by rfl) ho2.rd (by omega) (by exact Below.size (w := W) (by assumption)) ?_; intro A' c' w4 ho hb3)
      | (refine step_append_rd rfl (.tmp 5) (.tmp 8) _ (by rfl) W.heap.size 5 Tryz.underlying32 hi0 hz0 hz1 hz2 A1 3 3 (nB 3 m.se) (hid (nB_length _ _)) (by rfl) (ho1.mono hb2.size) A2 2 2 (nB 2 m.co) (hid (nB_length _ _)) (by rfl) (ho2.rd.keep hb1) (by omega) (by exact Below.size (w := W) (by assumption)) ?_; intro A' c' w4 ho hb3)
      | (go_simp; go_at_call 63; have tX := fun W => dig_of 3 3 m.se h1.1 h1.2 rfl (by omega) W; with_reducible refine (tX _).mono ?_; clear tX; rintro e w2 ⟨A1, rfl, ho1, hb1⟩)
      | (go_simp; go_at_call 63; have tX := fun W => dig_of 2 2 m.co h2.1 co9 rfl (by omega) W; with_reducible refine (tX _).mono ?_; clear tX; rintro e w3 ⟨A2, rfl, ho2, hb2⟩))
  all_goals
    have hB := below_in hbW (show Below W.heap.size W w4 by assumption)
    clear q2 q3 S0 ho1 ho2 hb1 hb2 hb3
    go_simp
    go_wp2
    go_ret
    exact ⟨A', c', rfl, by rw [HT.out]; exact ho.rd, hB⟩

theorem idx_told (W : World) (a b c d : Int) (j : Nat) (hj : j < [a, b, c, d].length) : (Instr.index 24 (.agg #[.int .i64 a, .int .i64 b, .int .i64 c, .int .i64 d]) (.int .i64 (j : Int))).run Tryz.prog W = .ok (.int .i64 [a, b, c, d][j]) W :=
  match j, hj with
  | 0, _ =>
    have h : ∀ W : World, (Instr.index 24 (.agg #[.int .i64 a, .int .i64 b, .int .i64 c, .int .i64 d]) (.int .i64 0)).run Tryz.prog W = .ok (.int .i64 a) W := fun _ => by kernel_rfl
    h W
  | 1, _ =>
    have h : ∀ W : World, (Instr.index 24 (.agg #[.int .i64 a, .int .i64 b, .int .i64 c, .int .i64 d]) (.int .i64 1)).run Tryz.prog W = .ok (.int .i64 b) W := fun _ => by kernel_rfl
    h W
  | 2, _ =>
    have h : ∀ W : World, (Instr.index 24 (.agg #[.int .i64 a, .int .i64 b, .int .i64 c, .int .i64 d]) (.int .i64 2)).run Tryz.prog W = .ok (.int .i64 c) W := fun _ => by kernel_rfl
    h W
  | 3, _ =>
    have h : ∀ W : World, (Instr.index 24 (.agg #[.int .i64 a, .int .i64 b, .int .i64 c, .int .i64 d]) (.int .i64 3)).run Tryz.prog W = .ok (.int .i64 d) W := fun _ => by kernel_rfl
    h W
def nBs (l : List Int) : List UInt8 := l.flatMap fun n => nB 3 n
theorem nBs_len : ∀ l : List Int, (nBs l).length = 3 * l.length
  | [] => rfl
  | a :: l => by
    have : nBs (a :: l) = nB 3 a ++ nBs l := by simp [nBs]
    rw [this, List.length_append, nB_length, nBs_len l, List.length_cons]
    omega
theorem nBs_take (l : List Int) (j : Nat) (h : j < l.length) : nBs (l.take (j + 1)) = nBs (l.take j) ++ nB 3 l[j] := by
  rw [List.take_succ_eq_append_getElem h, nBs, List.flatMap_append]; simp [nBs]

set_option maxRecDepth 100000 in
set_option maxHeartbeats 1600000 in
theorem put_told (m : Mld) (A : Option Addr) (n c : Nat) (hm : mayK 9 m = true) (w : World) :
    Calls Tryz.prog 106 #[.agg #[.int .u8 m.kd, .int .i64 m.us, .int .i64 m.se, .int .i64 m.co, .int .i64 m.fr, .int .i64 m.tt, .int .u8 m.ak, .int .i64 m.t0, .int .i64 m.t1, .int .i64 m.t2, .int .i64 m.t3, .slice A n c]] w (RetBs w (tailK 9 m) 13) := by
  obtain ⟨i0, hi0, hz0, hz1, hz2⟩ := info_parts info_u8
  have h : (askB m.ak && (countB m.t0 && countB m.t1 && countB m.t2 && countB m.t3)) = true := hm
  simp only [Bool.and_eq_true] at h
  have h' := askB_iff.1 h.1
  obtain ⟨ts, hts⟩ : ∃ ts, [m.t0, m.t1, m.t2, m.t3] = ts := ⟨_, rfl⟩
  have h4 : ts.length = 4 := by rw [← hts]; rfl
  have hall : ts.all countB = true := by rw [← hts]; simp [h.2]
  have HA := hid hall
  have H4 := hid h4
  have HT := hid (show tailK 9 m = nB 1 m.ak ++ nBs ts by rw [← hts]; simp [tailK, nBs])
  have HI := hid (show ∀ (W : World) (j : Nat) (hj : j < ts.length), (Instr.index 24 (.agg #[.int .i64 m.t0, .int .i64 m.t1, .int .i64 m.t2, .int .i64 m.t3]) (.int .i64 (j : Int))).run Tryz.prog W = .ok (.int .i64 ts[j]) W by subst hts; exact fun W j hj => idx_told W _ _ _ _ j hj)
  have a0 : 0 ≤ m.ak := by omega
  have a1 : m.ak ≤ 2 := by omega
  have hw : IntKind.i64.wrap m.ak = m.ak := by rw [IntKind.wrap_i64]; omega
  have bx := boxM_new w m A n c 27
  clear hm h h' hts h4 hall
  go_enter Tryz.func106, Tryz.ntmps106
  go_wp2_with fail
  refine (dig_of 1 1 m.ak a0 (by omega) rfl (by omega) _).mono ?_
  rintro e w1 ⟨A1, rfl, ho1, b1⟩
  have bx1 := bx.keep b1
  have hb1 := past_alloc b1
  have ho1 := ho1.mono (base' := w.heap.size) (by simp)
  clear bx b1
  go_wp2_with (refine wpList_load_t rfl (.tmp 10) rfl w.heap.size rfl bx1 ?_)
  clear bx1 hw
  go_loopw [3, 5, 12] (fun v _ i wr => ∃ (j : Nat) (A' : Option Addr) (c' k : Nat), j ≤ 4 ∧ i = .int .i64 (j : Int) ∧ v = .slice A' k c' ∧ Hid (k = 1 + 3 * j) ∧ Own wr w.heap.size 5 A' c' (nB 1 m.ak ++ nBs (ts.take j)) ∧ Below w.heap.size w wr) (fun _ _ i _ => 4 - (intOf i).toNat)
  case atStart => exact ⟨0, A1, 1, 1, by omega, rfl, rfl, hid rfl, by simpa [nBs] using ho1, hb1⟩
  case round =>
    clear ho1 hb1
    obtain ⟨j, A', c', k, hj, rfl, rfl, hk, ho, hb⟩ := hrel
    by_cases hlt : j < 4
    · have h4 := H4.out
      have hix := fun W => HI.out W j (by omega)
      have hcd := countB_iff.1 (List.all_eq_true.1 HA.out _ (List.getElem_mem (l := ts) (n := j) (by omega)))
      have hs := nBs_take ts j (by omega)
      have hl := hid (show (nB 1 m.ak ++ nBs (ts.take j)).length = k by rw [List.length_append, nB_length, nBs_len, List.length_take, hk.out]; omega)
      have hk9 : k ≤ 13 := by have := hk.out; omega
      generalize ts[j]'(by omega) = d at hix hcd hs
      have HS := hid hs
      have hlt2 : (j : Int) < 4 := by omega
      clear hs h4
      go_wp2_with fail
      refine (dig_of 3 3 d hcd.1 hcd.2 rfl (by omega) _).mono ?_
      rintro e w2 ⟨A2, rfl, ho2, b2⟩
      have ho3 := ho.keep b2
      have hb2 := below_in hb b2
      have hsz := hb2.size
      clear ho b2
      go_wp2_with (at_builtin; refine wpList_append_rd rfl (.tmp 15) (.tmp 17) _ rfl w.heap.size 5 Tryz.underlying32 hi0 hz0 hz1 hz2 A' k c' _ hl rfl ho3 A2 3 3 (nB 3 d) (hid (nB_length _ _)) rfl ho2.rd (by omega) hsz ?_; intro A4 c4 w4 ho4 b4)
      go_roundw
      case rel => exact ⟨j + 1, A4, c4, k + 3, by omega, by go_num, rfl, hid (by rw [hk.out]; omega), by rw [HS.out, ← List.append_assoc]; exact ho4, hb2.trans b4⟩
      case measure => simp [intOf]; omega
    · have ej : j = 4 := by omega
      subst ej
      have hlt2 : ¬ (((4 : Nat) : Int) < 4) := by omega
      have ek : k = 13 := hk.out
      rw [List.take_of_length_le (by rw [H4.out]; omega)] at ho
      subst ek
      go_wp2
      go_ret
      exact ⟨A', c', rfl, by rw [HT.out]; exact ho.rd, hb⟩
end Go.Proofs.YtdhfnacdjjdijaaGreat
