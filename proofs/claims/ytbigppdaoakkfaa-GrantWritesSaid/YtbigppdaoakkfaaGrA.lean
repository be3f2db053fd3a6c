/-
  The contracts of grant.Check, okByte, tell.
-/
import Derived.Test.YtbigppdaoakkfaaGrO
import Derived.Test.YtbigppdaoakkfaaPoE
import Derived.BigRegion
namespace Go.Proofs.Ytbigppdaoakkfaa
open Go.RowKit
set_option linter.unusedVariables false
set_option linter.unusedSimpArgs false

theorem right_one (x : Cl) : rightB [x] [] 0 = clearB x := by
  simp [rightB, usersB, quotasB, okU, okQ, inR, smB, smC]

set_option maxRecDepth 100000 in
set_option maxHeartbeats 800000 in
theorem gcheck_of (q : Bool) (u l c : Int) (b : Bool) (ht : Gr.typed ⟨u, l, c, b⟩) (hq : Hid (mayG ⟨u, l, c, b⟩ = q)) (w : World) :
    Calls Try.prog 15 #[.agg #[.int .i64 u, .int .u8 l, .int .u32 c, .bool b]] w fun e w' => e = .returned (.int .i64 (er q)) ∧ Below w.heap.size w w' := by
  by_cases h0 : u < 0
  · have d1 : decide (u < 0) = true := decide_eq_true h0
    have HV := hid (show q = false by rw [← hq.out, mayG, inR, decide_eq_false (by show ¬ (0 ≤ u ∧ u ≤ 7); omega), Bool.false_and])
    clear h0 hq
    go_enter Try.func15, Try.ntmps15
    go_wp2
    go_ret
    exact ⟨by rw [HV.out]; rfl, by go_grown⟩
  · have d1 : decide (u < 0) = false := decide_eq_false h0
    by_cases h8 : 8 ≤ u
    · have d2 : decide (8 ≤ u) = true := decide_eq_true h8
      have HV := hid (show q = false by rw [← hq.out, mayG, inR, decide_eq_false (by show ¬ (0 ≤ u ∧ u ≤ 7); omega), Bool.false_and])
      clear h0 h8 hq
      go_enter Try.func15, Try.ntmps15
      go_wp2
      go_ret
      exact ⟨by rw [HV.out]; rfl, by go_grown⟩
    · have d2 : decide (8 ≤ u) = false := decide_eq_false h8
      have HQ := hid (show rightB [⟨l, c, b⟩] [] 0 = q by rw [right_one, ← hq.out, mayG, inR, decide_eq_true (by show 0 ≤ u ∧ u ≤ 7; omega), Bool.true_and]; rfl)
      clear h0 h8 hq
      go_enter Try.func15, Try.ntmps15
      go_wp2_with fail
      have hl := lit_c (w.alloc (.cells #[.int .i64 u, .int .u8 l, .int .u32 c, .bool b] 36)) [⟨l, c, b⟩] (by simp) (fun x hx => by simp at hx; subst hx; exact ht.lab)
      rw [show (w.alloc (.cells #[.int .i64 u, .int .u8 l, .int .u32 c, .bool b] 36)).heap.size = w.heap.size + 1 by simp] at hl
      refine (check_of q _ _ _ _ _ _ _ [⟨l, c, b⟩] [] HQ _ ⟨rfl, rfl, hl.rd, RdQ.nil _, by decide, by decide⟩).mono ?_
      rintro e w1 ⟨rfl, b1⟩
      replace b1 := past_alloc2 b1
      go_wp2
      go_ret
      exact ⟨rfl, b1⟩

def bt (b : Bool) : Int := if b then 1 else 0
theorem okByte_any (l c : Int) (b : Bool) (w : World) :
    Calls Try.prog 29 #[.agg #[.int .u8 l, .int .u32 c, .bool b]] w fun e w' => e = .returned (.int .u8 (bt b)) ∧ Below w.heap.size w w' := by
  cases b
  · go_enter Try.func29, Try.ntmps29
    go_wp2
    go_ret
    exact ⟨rfl, by go_grown⟩
  · go_enter Try.func29, Try.ntmps29
    go_wp2
    go_ret
    exact ⟨rfl, by go_grown⟩

theorem as_pol (v : Value) (w : World) : (Instr.typeAssert (.iface 25 v) 20 25 true).run Try.prog w = .ok (.tuple #[v, .bool true]) w := by kernel_rfl
theorem as_err (v : Value) (w : World) : (Instr.typeAssert (.iface 26 v) 20 25 true).run Try.prog w = .ok (.tuple #[.agg #[.slice none 0 0, .slice none 0 0, .int .i64 0], .bool false]) w := by kernel_rfl
theorem as_one (v : Value) (w : World) : (Instr.typeAssert (.iface 26 v) 20 26 false).run Try.prog w = .ok v w := by kernel_rfl

set_option maxRecDepth 100000 in
set_option maxHeartbeats 800000 in
theorem tell_pol (A : Option Addr) (n c : Nat) (B : Option Addr) (m d : Nat) (g : Int) (w : World) :
    Calls Try.prog 26 #[.iface 25 (.agg #[.slice A n c, .slice B m d, .int .i64 g])] w fun e w' => e = .returned (.tuple #[.agg #[.slice A n c, .slice B m d, .int .i64 g], .int .i64 0]) ∧ Below w.heap.size w w' := by
  have h1 := as_pol
  go_enter Try.func26, Try.ntmps26
  go_wp2
  exact bodyPost_ret (v := .tuple #[.agg #[.slice A n c, .slice B m d, .int .i64 g], .int .i64 0]) (by simp [results, Try.results26, go_sem]) rfl ⟨rfl, by go_grown⟩

set_option maxRecDepth 100000 in
set_option maxHeartbeats 800000 in
theorem tell_err (k : Int) (w : World) :
    Calls Try.prog 26 #[.iface 26 (.int .i64 k)] w fun e w' => e = .returned (.tuple #[.agg #[.slice none 0 0, .slice none 0 0, .int .i64 0], .int .i64 k]) ∧ Below w.heap.size w w' := by
  have h1 := as_err
  have h2 := as_one
  go_enter Try.func26, Try.ntmps26
  go_wp2
  go_region
  all_goals
    go_wp2
    exact bodyPost_ret (v := .tuple #[.agg #[.slice none 0 0, .slice none 0 0, .int .i64 0], .int .i64 k]) (by simp [results, Try.results26, go_sem]) rfl ⟨rfl, by go_grown⟩
end Go.Proofs.Ytbigppdaoakkfaa
