/-
  The program's headMay, tailMay and Check.
-/
import Derived.Test.YtbhglgcnoidddaaOpA
namespace Go.Proofs.Ytbhglgcnoidddaa
open Go.RowKit
set_option linter.unusedVariables false
set_option linter.unusedSimpArgs false

set_option maxHeartbeats 800000 in
theorem headMay_of (q : Bool) (o : Opd) (A : Option Addr) (n c : Nat) (hq : Hid (headB o = q)) (w : World) :
    Calls Try.prog 27 #[.agg #[.int .u8 o.kd, .int .u8 o.l, .int .u32 o.c, .int .u8 o.k, .int .i64 o.s, .int .u8 o.fl, .int .u32 o.fc, .int .u8 o.fk, .int .i64 o.fn, .int .i64 o.fm, .int .u8 o.al, .int .u32 o.ac, .int .u8 o.ak, .int .i64 o.an, .int .u8 o.tl, .int .u32 o.tc, .slice A n c]] w fun e w' => e = .returned (.bool q) ∧ Below w.heap.size w w' := by
  obtain ⟨m, hm⟩ : ∃ m, mayH o.l o.k = m := ⟨_, rfl⟩
  have h := hq.out
  rw [headB, hm] at h
  have HM := hid hm
  clear hq hm
  cases m
  · have HQ := hid (show false = q by simpa using h)
    have HJ := hid (show er (mayH o.l o.k) = 8 by rw [HM.out]; rfl)
    clear h
    go_enter Try.func27, Try.ntmps27
    go_wp2_with fail
    go_call chkH_j 8 _ _ _ HJ _ as e w1 ⟨rfl, b1⟩
    go_wp2
    go_ret
    exact ⟨ret_bool HQ.out, past_alloc b1⟩
  · have HJ := hid (show er (mayH o.l o.k) = 0 by rw [HM.out]; rfl)
    by_cases h1 : 1 ≤ o.s
    · by_cases h2 : o.s < 16777216
      · have d1 : decide (1 ≤ o.s) = true := decide_eq_true h1
        have d2 : decide (o.s < 16777216) = true := decide_eq_true h2
        rw [d1, d2] at h
        obtain ⟨r, hr⟩ : ∃ r, mayS o.fl o.fk o.fn o.fm = r := ⟨_, rfl⟩
        rw [hr] at h
        have HR := hid hr
        have HQ := hid (show r = q by simpa using h)
        clear h hr h1 h2
        cases r
        · have HK := hid (show er (mayS o.fl o.fk o.fn o.fm) = 8 by rw [HR.out]; rfl)
          go_enter Try.func27, Try.ntmps27
          go_wp2_with fail
          go_call chkH_j 0 _ _ _ HJ _ as e w1 ⟨rfl, b1⟩
          obtain ⟨s0, s1, s2, s3, s4, s5, s6, s7, s8, s9, s10, s11, s12, s13, s14, s15, s16⟩ := (boxO_new w o A n c 35).keep b1
          replace b1 := past_alloc b1
          go_wp2_with fail
          go_call chkS_j 8 _ _ _ _ _ HK _ as e w2 ⟨rfl, b2⟩
          go_wp2
          go_ret
          exact ⟨ret_bool HQ.out, below_in b1 b2⟩
        · have HK := hid (show er (mayS o.fl o.fk o.fn o.fm) = 0 by rw [HR.out]; rfl)
          go_enter Try.func27, Try.ntmps27
          go_wp2_with fail
          go_call chkH_j 0 _ _ _ HJ _ as e w1 ⟨rfl, b1⟩
          obtain ⟨s0, s1, s2, s3, s4, s5, s6, s7, s8, s9, s10, s11, s12, s13, s14, s15, s16⟩ := (boxO_new w o A n c 35).keep b1
          replace b1 := past_alloc b1
          go_wp2_with fail
          go_call chkS_j 0 _ _ _ _ _ HK _ as e w2 ⟨rfl, b2⟩
          go_wp2
          go_ret
          exact ⟨ret_bool HQ.out, below_in b1 b2⟩
      · have d1 : decide (1 ≤ o.s) = true := decide_eq_true h1
        have d2 : decide (o.s < 16777216) = false := decide_eq_false h2
        rw [d1, d2] at h
        have HQ := hid (show false = q by simpa using h)
        clear h h1 h2
        go_enter Try.func27, Try.ntmps27
        go_wp2_with fail
        go_call chkH_j 0 _ _ _ HJ _ as e w1 ⟨rfl, b1⟩
        obtain ⟨s0, s1, s2, s3, s4, s5, s6, s7, s8, s9, s10, s11, s12, s13, s14, s15, s16⟩ := (boxO_new w o A n c 35).keep b1
        go_wp2
        go_ret
        exact ⟨ret_bool HQ.out, past_alloc b1⟩
    · have d1 : decide (1 ≤ o.s) = false := decide_eq_false h1
      rw [d1] at h
      have HQ := hid (show false = q by simpa using h)
      clear h h1
      go_enter Try.func27, Try.ntmps27
      go_wp2_with fail
      go_call chkH_j 0 _ _ _ HJ _ as e w1 ⟨rfl, b1⟩
      obtain ⟨s0, s1, s2, s3, s4, s5, s6, s7, s8, s9, s10, s11, s12, s13, s14, s15, s16⟩ := (boxO_new w o A n c 35).keep b1
      go_wp2
      go_ret
      exact ⟨ret_bool HQ.out, past_alloc b1⟩

end Go.Proofs.Ytbhglgcnoidddaa
