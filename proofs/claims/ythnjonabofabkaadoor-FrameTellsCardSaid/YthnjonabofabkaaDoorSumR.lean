/-
  The contracts of the reference's functions: Of, Bytes, Right.
-/
import Derived.Test.YthnjonabofabkaaDoorSumB
namespace Go.Proofs.YthnjonabofabkaaDoor
open Go.RowKit
set_option linter.unusedVariables false

theorem xor_i64 {a c : Nat} (ha : a < 2 ^ 24) (hc : c < 2 ^ 24) : bits .xor .i64 (a : Int) (c : Int) = ((a ^^^ c : Nat) : Int) := by
  have h := Nat.xor_lt_two_pow ha hc
  show IntKind.i64.wrap ((BitVec.ofInt 64 (a : Int) ^^^ BitVec.ofInt 64 (c : Int)).toNat : Int) = _
  rw [BitVec.toNat_xor, ofInt_nat (by omega), ofInt_nat (by omega), IntKind.wrap_i64]
  omega

set_option maxHeartbeats 800000 in
theorem refof_any (A : Option Addr) (n c : Nat) (l : List UInt8) (hn : Hid (l.length = n)) (w : World) (hr : Rd w A c l) :
    Calls Tryd.prog 33 #[.slice A n c] w fun e w' => e = .returned (.int .u32 (sumOf l)) ∧ w = w' := by
  have hc2 : (c : Int) ≤ 9223372036854775807 := by have := hr.cap; omega
  have hc1 : (n : Int) ≤ c := by have := hr.len; have := hn.out; omega
  have HR := hid hr
  clear hr
  go_enter Tryd.func33, Tryd.ntmps33
  go_wp2
  go_loop [3, 4] (fun v i => ∃ j : Nat, j ≤ n ∧ i = .int .i64 (j : Int) ∧ ∃ z : Int, Hid (z = (sm first (l.take j) : Nat)) ∧ v = .int .i64 z) (fun _ i => n - (intOf i).toNat)
  case atStart => exact ⟨0, by omega, rfl, _, hid rfl, rfl⟩
  case round =>
    obtain ⟨j, hj, rfl, z, hz, rfl⟩ := hrel
    by_cases hlt : j < n
    · have hl := hn.out
      obtain ⟨b, o, rfl, hcell⟩ := HR.out.at_ (by omega)
      have h1 := hcell j (by omega)
      have hs := sm_snoc first (l.take j) (l[j]'(by omega))
      rw [← List.take_succ_eq_append_getElem (by omega)] at hs
      generalize l[j]'(by omega) = d at h1 hs
      have hlt2 : (j : Int) < (n : Int) := by omega
      have hd : (d.toNat : Int) ≤ 255 := by have := d.toNat_lt; omega
      have hm := sm_lt first_lt (l.take j)
      rw [← rk_wi d hm] at hs
      have HS := hid hs
      have HT := hid (fun k => rk_lt d.toNat hm k)
      generalize hq : sm first (l.take j) = r at hz HS HT hm
      clear hs hcell hl
      go_wp2
      go_loop [3, 5, 6] (fun v x i => ∃ k : Nat, k ≤ 8 ∧ i = .int .i64 (k : Int) ∧ ∃ y u : Int, Hid (y = (rk r d.toNat k : Nat)) ∧ v = .int .i64 y ∧ Hid (u = (d.toNat * 2 ^ k : Nat)) ∧ x = .int .i64 u) (fun _ _ i => 8 - (intOf i).toNat)
      case atStart => exact ⟨0, by omega, rfl, _, _, hz, rfl, hid (by simp), rfl⟩
      case round =>
        obtain ⟨k, hk, rfl, y, u, hy, rfl, hu, rfl⟩ := hrel
        by_cases hk8 : k < 8
        · have hb := HT.out k
          have ey := hy.out
          have eu := hu.out
          have es : rk r d.toNat (k + 1) = rt (rk r d.toNat k) (d.toNat * 2 ^ k) := rfl
          have hu2 : d.toNat * 2 ^ k ≤ 255 * 128 := by
            have h1 : (2 : Nat) ^ k ≤ 2 ^ 7 := Nat.pow_le_pow_right (by decide) (by omega)
            exact Nat.le_trans (Nat.mul_le_mul (by omega) (Nat.le_refl _)) (Nat.mul_le_mul (Nat.le_refl _) h1)
          have eu2 : d.toNat * 2 ^ (k + 1) = 2 * (d.toNat * 2 ^ k) := by rw [Nat.pow_succ, ← Nat.mul_assoc]; omega
          have HU := hid (show u * 2 = (d.toNat * 2 ^ (k + 1) : Nat) by rw [eu2]; omega)
          generalize rk r d.toNat k = p at hb ey es
          generalize d.toNat * 2 ^ k = q at eu hu2 es
          have hy0 : 0 ≤ y := by omega
          have hy1 : y < 16777216 := by omega
          have hu0 : 0 ≤ u := by omega
          have hu1 : u ≤ 32640 := by omega
          by_cases hc : p / 8388608 = q / 128 % 2
          · have ht : (y / 8388608 != u / 128 % 2) = false := by simp; omega
            have HW := hid (show y % 8388608 * 2 = (rk r d.toNat (k + 1) : Nat) by
              rw [es, rt, if_pos hc]
              simp
              omega)
            clear hb ey eu es hu2 eu2 hc hy hu HT
            go_wp2
            go_round
            case rel => exact ⟨k + 1, by omega, by go_num, _, _, HW, rfl, HU, rfl⟩
            case measure => simp [intOf]; omega
          · have ht : (y / 8388608 != u / 128 % 2) = true := by simp; omega
            have HW := hid (show bits .xor .i64 (y % 8388608 * 2) 8801531 = (rk r d.toNat (k + 1) : Nat) by
              rw [es, rt, if_neg hc, ← xor_i64 (by omega) (by decide)]
              congr 1
              omega)
            clear hb ey eu es hu2 eu2 hc hy hu HT
            go_wp2
            go_round
            case rel => exact ⟨k + 1, by omega, by go_num, _, _, HW, rfl, HU, rfl⟩
            case measure => simp [intOf]; omega
        · have ek : k = 8 := by omega
          subst ek
          clear HT
          go_wp2
          go_round
          case rel => exact ⟨j + 1, by omega, by go_num, _, hid (by rw [hy.out, ← HS.out]), rfl⟩
          case measure => simp [intOf]; omega
    · have ej : l.take j = l := List.take_of_length_le (by have := hn.out; omega)
      have hlt2 : ¬ (j : Int) < (n : Int) := by omega
      have e := hz.out
      rw [ej] at e
      have hm := sm_lt first_lt l
      have h0 : 0 ≤ z := by omega
      have h1 : z < 4294967296 := by omega
      have HE := hid (show z = sumOf l from e)
      clear ej e hm hz
      go_wp2
      go_ret
      exact ⟨ret_int (by rw [← HE.out]; try omega), rfl⟩

theorem refof_of (z : Int) (A : Option Addr) (n c : Nat) (l : List UInt8) (hn : Hid (l.length = n)) (hz : Hid (sumOf l = z)) (w : World) (hr : Rd w A c l) :
    Calls Tryd.prog 33 #[.slice A n c] w fun e w' => e = .returned (.int .u32 z) ∧ w = w' := by
  have e := hz.out
  subst e
  exact refof_any A n c l hn w hr

set_option maxHeartbeats 400000 in
theorem refbytes_any (s : Nat) (hs : s < 4294967296) (w : World) :
    Calls Tryd.prog 32 #[.int .u32 (s : Int)] w fun e w' => e = .returned (.slice (some ⟨w.heap.size, 0, none⟩) 3 3) ∧ w' = w.alloc (.cells (u8s (three s)).toArray 5) := by
  have H := hid (three_u8s s)
  have h1 : (s : Int) < 4294967296 := by omega
  have h0 : 0 ≤ (s : Int) := by omega
  clear hs
  generalize (s : Int) = z at H h0 h1 ⊢
  go_enter Tryd.func32, Tryd.ntmps32
  go_wp2
  go_ret
  exact ⟨rfl, by rw [H.out]⟩
end Go.Proofs.YthnjonabofabkaaDoor
