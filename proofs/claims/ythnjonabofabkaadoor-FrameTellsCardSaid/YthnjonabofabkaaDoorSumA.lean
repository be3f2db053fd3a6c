/-
  The contracts of the functions of sum: with, Of, Bytes, Right; bytes.Equal.
-/
import Derived.Test.YthnjonabofabkaaDoorRows
import Derived.Test.YthnjonabofabkaaDoorNumB
import Derived.Test.YthnjonabofabkaaDoorSumM
import Derived.Outline
import Derived.LoopTactic
import Derived.WalkMore
import Derived.ArgAppend
namespace Go.Proofs.YthnjonabofabkaaDoor
open Go.RowKit
set_option linter.unusedVariables false

theorem ofInt_nat {n x : Nat} (h : x < 2 ^ n) : (BitVec.ofInt n (x : Int)).toNat = x := by
  rw [BitVec.ofInt_natCast, BitVec.toNat_ofNat]
  exact Nat.mod_eq_of_lt h
theorem xor_u32 {a c : Nat} (ha : a < 2 ^ 32) (hc : c < 2 ^ 32) : bits .xor .u32 (a : Int) (c : Int) = ((a ^^^ c : Nat) : Int) := by
  have h := Nat.xor_lt_two_pow ha hc
  show IntKind.u32.wrap ((BitVec.ofInt 32 (a : Int) ^^^ BitVec.ofInt 32 (c : Int)).toNat : Int) = _
  rw [BitVec.toNat_xor, ofInt_nat ha, ofInt_nat hc, IntKind.wrap_u32]
  omega
theorem and_u32 {a c : Nat} (ha : a < 2 ^ 32) (hc : c < 2 ^ 32) : bits .and .u32 (a : Int) (c : Int) = ((a &&& c : Nat) : Int) := by
  have h := Nat.and_lt_two_pow a hc
  show IntKind.u32.wrap ((BitVec.ofInt 32 (a : Int) &&& BitVec.ofInt 32 (c : Int)).toNat : Int) = _
  rw [BitVec.toNat_and, ofInt_nat ha, ofInt_nat hc, IntKind.wrap_u32]
  omega
theorem over_bit (x : Nat) : ((((2 * x) &&& 16777216 : Nat) : Int) != 0) = x.testBit 23 := by
  have e : (2 * x) &&& 16777216 = 16777216 * (x.testBit 23).toNat := by
    apply Nat.eq_of_testBit_eq
    intro i
    rw [Nat.testBit_and, show 2 * x = x * 2 ^ 1 by omega, Nat.testBit_mul_two_pow, show 16777216 = 2 ^ 24 by decide, Nat.testBit_two_pow]
    by_cases h : 24 = i
    · subst h
      cases x.testBit 23 <;> decide
    · rw [Nat.mul_comm, Nat.testBit_mul_two_pow]
      simp only [h, decide_false, Bool.and_false]
      cases hq : x.testBit 23
      · simp
      · by_cases h2 : 24 ≤ i
        · rw [show i - 24 = (i - 25) + 1 by omega]
          simp [Nat.testBit_succ]
        · simp [h2]
  rw [e]
  cases x.testBit 23 <;> decide

set_option maxHeartbeats 400000 in
theorem with_any (s : Nat) (b : UInt8) (hs : s < 2 ^ 24) (w : World) :
    Calls Tryd.prog 29 #[.int .u32 (s : Int), .int .u8 (b.toNat : Int)] w fun e w' => e = .returned (.int .u32 (wi s b : Int)) ∧ w = w' := by
  have hb := b.toNat_lt
  have hb2 : (b.toNat : Int) ≤ 255 := by omega
  have H0 := hid (show bits .xor .u32 (s : Int) ((b.toNat : Int) * 65536) = ((tk (s ^^^ b.toNat <<< 16) 0 : Nat) : Int) by
    rw [tk, Nat.shiftLeft_eq]
    exact xor_u32 (a := s) (c := b.toNat * 65536) (by omega) (by omega))
  have HT := hid (fun j => tk_lt (Nat.xor_lt_two_pow hs (byte_lt b)) j)
  have H8 := hid (show tk (s ^^^ b.toNat <<< 16) 8 = wi s b from rfl)
  clear hb hs
  generalize hx : (s : Int) = z at H0 ⊢
  clear hx
  go_enter Tryd.func29, Tryd.ntmps29
  go_wp2
  go_loop [0, 10] (fun v i => ∃ j : Nat, j ≤ 8 ∧ i = .int .i64 (j : Int) ∧ ∃ z : Int, Hid (z = tk (s ^^^ b.toNat <<< 16) j) ∧ v = .int .u32 z) (fun _ i => 8 - (intOf i).toNat)
  case atStart => exact ⟨0, by omega, rfl, _, H0, rfl⟩
  case round =>
    obtain ⟨j, hj, rfl, z, hz, rfl⟩ := hrel
    by_cases hlt : j < 8
    · have hx := HT.out j
      have e := hz.out
      have e1 : tk (s ^^^ b.toNat <<< 16) (j + 1) = tw (tk (s ^^^ b.toNat <<< 16) j) := rfl
      generalize tk (s ^^^ b.toNat <<< 16) j = x at hx e e1
      have hz0 : 0 ≤ z := by omega
      have hz1 : z < 16777216 := by omega
      have ha : (bits .and .u32 (z * 2) 16777216 != 0) = x.testBit 23 := by
        rw [← over_bit, ← and_u32 (by omega) (by omega)]
        congr 2
        omega
      cases hq : x.testBit 23
      · have hw := hid (show z * 2 = tk (s ^^^ b.toNat <<< 16) (j + 1) by
          rw [e1, tw, hq, Nat.shiftLeft_eq]
          simp
          omega)
        rw [hq] at ha
        clear hz e e1 hx hq HT H8
        go_wp2
        go_round
        case rel => exact ⟨j + 1, by omega, by go_num, _, hw, rfl⟩
        case measure => simp [intOf]; omega
      · have hw := hid (show bits .xor .u32 (z * 2) 25578747 = tk (s ^^^ b.toNat <<< 16) (j + 1) by
          rw [e1, tw, hq, Nat.shiftLeft_eq, ← xor_u32 (by omega) (by simp)]
          congr 1
          · omega)
        rw [hq] at ha
        clear hz e e1 hx hq HT H8
        go_wp2
        go_round
        case rel => exact ⟨j + 1, by omega, by go_num, _, hw, rfl⟩
        case measure => simp [intOf]; omega
    · have ej : j = 8 := by omega
      subst ej
      go_wp2
      go_ret
      exact ⟨ret_int (by rw [hz.out, H8.out]), rfl⟩

theorem with_of (z : Int) (s : Nat) (b : UInt8) (hz : Hid (z = (s : Int))) (hs : s < 2 ^ 24) (w : World) :
    Calls Tryd.prog 29 #[.int .u32 z, .int .u8 (b.toNat : Int)] w fun e w' => e = .returned (.int .u32 (wi s b : Int)) ∧ w = w' := by
  have e := hz.out
  subst e
  exact with_any s b hs w

/-- The sum of bytes. -/
def sumOf (l : List UInt8) : Int := (sm first l : Nat)
theorem first_lt : first < 2 ^ 24 := by decide
theorem sumOf_lt (l : List UInt8) : 0 ≤ sumOf l ∧ sumOf l < 16777216 := by
  have := sm_lt first_lt l
  unfold sumOf
  omega

set_option maxHeartbeats 400000 in
theorem of_any (A : Option Addr) (n c : Nat) (l : List UInt8) (hn : Hid (l.length = n)) (w : World) (hr : Rd w A c l) :
    Calls Tryd.prog 19 #[.slice A n c] w fun e w' => e = .returned (.int .u32 (sumOf l)) ∧ w = w' := by
  have hc2 : (c : Int) ≤ 9223372036854775807 := by have := hr.cap; omega
  have hc1 : (n : Int) ≤ c := by have := hr.len; have := hn.out; omega
  have HR := hid hr
  clear hr
  go_enter Tryd.func19, Tryd.ntmps19
  go_wp2
  go_loop [3, 5, 8] (fun v x i => ∃ j : Nat, j ≤ n ∧ i = .int .i64 (j : Int) ∧ ∃ z : Int, Hid (z = (sm first (l.take j) : Nat)) ∧ v = .int .u32 z) (fun _ _ i => n - (intOf i).toNat)
  case atStart => exact ⟨0, by omega, rfl, _, hid rfl, rfl⟩
  case round =>
    obtain ⟨j, hj, rfl, z, hz, rfl⟩ := hrel
    by_cases hlt : j < n
    · have hl := hn.out
      obtain ⟨b, o, rfl, hcell⟩ := HR.out.at_ (by omega)
      have h1 := hcell j (by omega)
      have hs := sm_snoc first (l.take j) (l[j]'(by omega))
      rw [← List.take_succ_eq_append_getElem (by omega)] at hs
      generalize l[j]'(by omega) = d at h1 hs
      have HS := hid hs
      have hlt2 : (j : Int) < (n : Int) := by omega
      have hd : (d.toNat : Int) ≤ 255 := by have := d.toNat_lt; omega
      have hm := sm_lt first_lt (l.take j)
      clear hs hcell hl
      go_wp2_with (go_at_call 29; refine (with_of z _ d hz hm _).mono ?_; rintro e w' ⟨rfl, rfl⟩)
      go_round
      case rel => exact ⟨j + 1, by omega, by go_num, _, hid (by rw [HS.out]), rfl⟩
      case measure => simp [intOf]; omega
    · have ej : l.take j = l := List.take_of_length_le (by have := hn.out; omega)
      have hlt2 : ¬ (j : Int) < (n : Int) := by omega
      have HE := hid ej
      clear ej
      go_wp2
      go_ret
      exact ⟨ret_int (by rw [hz.out, HE.out]; rfl), rfl⟩

theorem of_of (z : Int) (A : Option Addr) (n c : Nat) (l : List UInt8) (hn : Hid (l.length = n)) (hz : Hid (sumOf l = z)) (w : World) (hr : Rd w A c l) :
    Calls Tryd.prog 19 #[.slice A n c] w fun e w' => e = .returned (.int .u32 z) ∧ w = w' := by
  have e := hz.out
  subst e
  exact of_any A n c l hn w hr

theorem three_u8s (s : Nat) : u8s (three s) = [.int .u8 ((s : Int) / 65536 % 256), .int .u8 ((s : Int) / 256 % 256), .int .u8 ((s : Int) % 256)] := by
  simp [three, u8s]

set_option maxHeartbeats 400000 in
theorem bytes_any (s : Nat) (hs : s < 4294967296) (w : World) :
    Calls Tryd.prog 18 #[.int .u32 (s : Int)] w fun e w' => e = .returned (.slice (some ⟨w.heap.size, 0, none⟩) 3 3) ∧ w' = w.alloc (.cells (u8s (three s)).toArray 5) := by
  have H := hid (three_u8s s)
  have h1 : (s : Int) < 4294967296 := by omega
  have h0 : 0 ≤ (s : Int) := by omega
  clear hs
  generalize (s : Int) = z at H h0 h1 ⊢
  go_enter Tryd.func18, Tryd.ntmps18
  go_wp2
  go_ret
  exact ⟨rfl, by rw [H.out]⟩
end Go.Proofs.YthnjonabofabkaaDoor
