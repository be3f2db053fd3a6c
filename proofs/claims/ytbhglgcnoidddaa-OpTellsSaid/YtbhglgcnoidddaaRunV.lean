/-
  The contract of value: four bytes' number.
-/
import Derived.Test.YtbhglgcnoidddaaRunH
namespace Go.Proofs.Ytbhglgcnoidddaa
open Go.RowKit
set_option linter.unusedVariables false

theorem ofInt_int (x : Int) : ((BitVec.ofInt 32 x).toNat : Int) = x % 4294967296 := by
  rw [BitVec.toNat_ofInt]
  omega
theorem or_i32 {x y : Int} (h : x % 256 = 0) (h0 : -2147483648 ≤ x) (h1 : x ≤ 2147483647) (y0 : 0 ≤ y) (y1 : y ≤ 255) : bits .or .i32 x y = x + y := by
  show IntKind.i32.wrap ((BitVec.ofInt 32 x ||| BitVec.ofInt 32 y).toNat : Int) = _
  rw [BitVec.toNat_or]
  have hx := ofInt_int x
  have hy := ofInt_int y
  generalize (BitVec.ofInt 32 x).toNat = a at hx ⊢
  generalize (BitVec.ofInt 32 y).toNat = c at hy ⊢
  obtain ⟨k, rfl⟩ : ∃ k, a = 2 ^ 8 * k := ⟨a / 256, by omega⟩
  rw [← Nat.two_pow_add_eq_or_of_lt (show c < 2 ^ 8 by omega) k, IntKind.wrap_i32]
  omega
theorem value_eq {x0 x1 x2 x3 : Int} (a00 : 0 ≤ x0) (a01 : x0 ≤ 255) (a10 : 0 ≤ x1) (a11 : x1 ≤ 255) (a20 : 0 ≤ x2) (a21 : x2 ≤ 255) (a30 : 0 ≤ x3) (a31 : x3 ≤ 255) :
    bits .or .i32 (wrap32 (bits .or .i32 (wrap32 (bits .or .i32 (x0 * 256) x1 * 256)) x2 * 256)) x3 = sgn (16777216 * x0 + 65536 * x1 + 256 * x2 + x3) := by
  have w (n : Int) : wrap32 n = (n + 2147483648) % 4294967296 - 2147483648 := by unfold wrap32; omega
  have w1 : wrap32 ((x0 * 256 + x1) * 256) = (x0 * 256 + x1) * 256 := by rw [w]; omega
  rw [or_i32 (x := x0 * 256) (by omega) (by omega) (by omega) a10 a11, w1, or_i32 (x := (x0 * 256 + x1) * 256) (by omega) (by omega) (by omega) a20 a21, w]
  rw [or_i32 (by omega) (by omega) (by omega) a30 a31]
  unfold sgn
  split <;> omega

set_option maxRecDepth 100000 in
set_option maxHeartbeats 2000000 in
theorem value_any (b o c : Nat) (x0 x1 x2 x3 : Int) (w : World) (hc : 4 ≤ c ∧ (c : Int) ≤ 9223372036854775807)
    (h0 : w.cell? ⟨b, o, none⟩ = some (.int .u8 x0)) (h1 : w.cell? ⟨b, o + 1, none⟩ = some (.int .u8 x1)) (h2 : w.cell? ⟨b, o + 2, none⟩ = some (.int .u8 x2)) (h3 : w.cell? ⟨b, o + 3, none⟩ = some (.int .u8 x3))
    (a0 : 0 ≤ x0 ∧ x0 ≤ 255) (a1 : 0 ≤ x1 ∧ x1 ≤ 255) (a2 : 0 ≤ x2 ∧ x2 ≤ 255) (a3 : 0 ≤ x3 ∧ x3 ≤ 255) :
    Calls Try.prog 89 #[.slice (some ⟨b, o, none⟩) 4 c] w fun e w' => e = .returned (.int .i32 (sgn (16777216 * x0 + 65536 * x1 + 256 * x2 + x3))) ∧ w = w' := by
  obtain ⟨a00, a01⟩ := a0
  obtain ⟨a10, a11⟩ := a1
  obtain ⟨a20, a21⟩ := a2
  obtain ⟨a30, a31⟩ := a3
  obtain ⟨c0, c1⟩ := hc
  go_enter Try.func89, Try.ntmps89
  go_wp2
  go_rounds 5
  go_ret
  exact ⟨ret_int (value_eq a00 a01 a10 a11 a20 a21 a30 a31), rfl⟩
end Go.Proofs.Ytbhglgcnoidddaa
