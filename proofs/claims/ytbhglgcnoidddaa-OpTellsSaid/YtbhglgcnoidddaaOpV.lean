/-
  Bytes held against each other: bytes.Equal, bytes.HasPrefix.
-/
import Derived.Test.YtbhglgcnoidddaaOpA
import Derived.Test.YtbhglgcnoidddaaRunP
namespace Go.Proofs.Ytbhglgcnoidddaa
open Go.RowKit
set_option linter.unusedVariables false
set_option linter.unusedSimpArgs false

set_option maxHeartbeats 400000 in
theorem bequal_of (q : Bool) (A : Option Addr) (n c : Nat) (l : List UInt8) (hn : Hid (l.length = n)) (B : Option Addr) (k d : Nat) (m : List UInt8) (hk : Hid (m.length = k)) (hq : Hid ((l == m) = q)) (w : World) (hr : Rd w A c l) (hs : Rd w B d m) :
    Calls Try.prog 46 #[.slice A n c, .slice B k d] w fun e w' => e = .returned (.bool q) ∧ w = w' := by
  have y1 := rd_string hn hr
  have y2 := rd_string hk hs
  clear hr hs
  go_enter Try.func46, Try.ntmps46
  go_wp2
  go_ret
  exact ⟨ret_bool (by rw [← hq.out]), rfl⟩

def preB (l m : List UInt8) : Bool := decide (m.length ≤ l.length) && (l.take m.length == m)
theorem preB_iff {l m : List UInt8} : preB l m = true ↔ m <+: l := by
  simp only [preB, Bool.and_eq_true, decide_eq_true_eq, beq_iff_eq]
  constructor
  · rintro ⟨_, h⟩
    exact List.prefix_iff_eq_take.2 h.symm
  · intro h
    exact ⟨h.length_le, (List.prefix_iff_eq_take.1 h).symm⟩

set_option maxHeartbeats 800000 in
theorem hasPrefix_of (q : Bool) (A : Option Addr) (n c : Nat) (l : List UInt8) (hn : Hid (l.length = n)) (B : Option Addr) (k d : Nat) (m : List UInt8) (hk : Hid (m.length = k)) (hq : Hid (preB l m = q)) (w : World) (hr : Rd w A c l) (hs : Rd w B d m) :
    Calls Try.prog 26 #[.slice A n c, .slice B k d] w fun e w' => e = .returned (.bool q) ∧ w = w' := by
  have hc2 : (c : Int) ≤ 9223372036854775807 := by have := hr.cap; omega
  have hc1 : (n : Int) ≤ c := by have := hr.len; have := hn.out; omega
  have h := hq.out
  rw [preB, hn.out, hk.out] at h
  by_cases hkn : k ≤ n
  · rw [decide_eq_true hkn, Bool.true_and] at h
    have HQ := hid h
    have hl := hid (show (l.take k).length = k by rw [List.length_take, hn.out]; omega)
    have hkn2 : (k : Int) ≤ n := by omega
    have hrt := hr.take k
    clear h hq
    match A with
    | none =>
      go_enter Try.func26, Try.ntmps26
      go_wp2_with fail
      refine (bequal_of q none k c (l.take k) hl B k d m hk HQ _ hrt hs).mono ?_
      rintro e w1 ⟨rfl, rfl⟩
      go_wp2
      go_ret
      exact ⟨rfl, rfl⟩
    | some a =>
      go_enter Try.func26, Try.ntmps26
      go_wp2_with fail
      refine (bequal_of q (some a) k c (l.take k) hl B k d m hk HQ _ hrt hs).mono ?_
      rintro e w1 ⟨rfl, rfl⟩
      go_wp2
      go_ret
      exact ⟨rfl, rfl⟩
  · rw [decide_eq_false hkn, Bool.false_and] at h
    have HQ := hid h
    have hkn2 : ¬ (k : Int) ≤ n := by omega
    clear h hq hr hs
    go_enter Try.func26, Try.ntmps26
    go_wp2
    go_ret
    exact ⟨ret_bool HQ.out, rfl⟩
end Go.Proofs.Ytbhglgcnoidddaa
