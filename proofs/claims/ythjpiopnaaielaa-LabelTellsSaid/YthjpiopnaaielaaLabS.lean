/-
  The document's own answers of layer 1, Join and Meet: their contracts.
-/
import Derived.Test.YthjpiopnaaielaaLabP
import Derived.Test.YthjpiopnaaielaaLabQ
namespace Go.Proofs.Ythjpiopnaaielaa
open Go.RowKit
set_option linter.unusedVariables false

theorem rMay_of (l c : Int) (w : World) (b : Bool) (h : decide (l ≤ 15) = b) :
    Calls Try.prog 26 #[.agg #[.int .u8 l, .int .u32 c]] w fun e w' => e = .returned (.bool b) ∧ Below w.heap.size w w' := by subst h; exact rMay_any l c w

set_option maxHeartbeats 1000000 in
theorem rJoin_any (a0 a1 b0 b1 : Int) (ha : Lab a0 a1) (hb : Lab b0 b1) (w : World) :
    Calls Try.prog 14 #[.agg #[.int .u8 a0, .int .u32 a1], .agg #[.int .u8 b0, .int .u32 b1]] w fun e w' =>
      e = .returned (.tuple #[.agg #[.int .u8 (sel (ck2 a0 b0) (mx a0 b0)), .int .u32 (sel (ck2 a0 b0) (orr a1 b1))], .int .i64 (ck2 a0 b0)]) ∧ Below w.heap.size w w' := by
  obtain ⟨m, rfl, hm⟩ := nat_of ha.c0 ha.c1
  obtain ⟨n, rfl, hn⟩ := nat_of hb.c0 hb.c1
  have key : (decide (a0 ≤ 15) = true ∧ decide (b0 ≤ 15) = true ∧ ck2 a0 b0 = 0) ∨ (decide (a0 ≤ 15) = true ∧ decide (b0 ≤ 15) = false ∧ ck2 a0 b0 = 8) ∨ (decide (a0 ≤ 15) = false ∧ ck2 a0 b0 = 8) := by
    by_cases h1 : a0 ≤ 15 <;> by_cases h2 : b0 ≤ 15 <;> simp [ck2, ck, h1, h2]
  clear ha hb
  rw [or_nat m n hm hn]
  generalize hR : (m ||| n) = r
  have HR := hid hR
  clear hR
  rcases key with ⟨h1, h2, h3⟩ | ⟨h1, h2, h3⟩ | ⟨h1, h3⟩
  all_goals
    have H3 := hid h3
    clear h3
    go_enter Try.func14, Try.ntmps14
    go_wp2_with fail
    generalize hW : ((w.alloc _).alloc _).alloc _ = W
    have hb : Below w.heap.size w W := by subst hW; go_grown
    have k1 : W.cell? ⟨w.heap.size, 0, none⟩ = some (.int .u8 a0) := by subst hW; simp [go_sem]
    have k2 : W.cell? ⟨w.heap.size, 1, none⟩ = some (.int .u32 m) := by subst hW; simp [go_sem]
    have k3 : W.cell? ⟨w.heap.size + 1, 0, none⟩ = some (.int .u8 b0) := by subst hW; simp [go_sem]
    have k4 : W.cell? ⟨w.heap.size + 1, 1, none⟩ = some (.int .u32 n) := by subst hW; simp [go_sem]
    have k5 : W.cell? ⟨w.heap.size + 1 + 1, 0, none⟩ = some (.int .u8 0) := by subst hW; simp [go_sem]
    have k6 : W.cell? ⟨w.heap.size + 1 + 1, 1, none⟩ = some (.int .u32 0) := by subst hW; simp [go_sem]
    have f5 : W.frozen? ⟨w.heap.size + 1 + 1, 0, none⟩ = false := by subst hW; simp [go_sem]
    have f6 : W.frozen? ⟨w.heap.size + 1 + 1, 1, none⟩ = false := by subst hW; simp [go_sem]
    clear hW
    refine (rMay_of a0 m _ _ h1).mono ?_
    rintro e w1 ⟨rfl, b1⟩
    replace hb := hb.trans (b1.mono hb.size)
    replace f5 := keepz b1 k5 f5
    replace f6 := keepz b1 k6 f6
    replace k1 := keep b1 k1
    replace k2 := keep b1 k2
    replace k3 := keep b1 k3
    replace k4 := keep b1 k4
    replace k5 := keep b1 k5
    replace k6 := keep b1 k6
    clear b1
    go_wp2_with fail
  · refine (rMay_of b0 n _ _ h2).mono ?_
    rintro e w2 ⟨rfl, b1⟩
    replace hb := hb.trans (b1.mono hb.size)
    replace f5 := keepz b1 k5 f5
    replace f6 := keepz b1 k6 f6
    replace k1 := keep b1 k1
    replace k2 := keep b1 k2
    replace k3 := keep b1 k3
    replace k4 := keep b1 k4
    replace k5 := keep b1 k5
    replace k6 := keep b1 k6
    clear b1
    go_wp2_with fail
    refine (rPut_join a0 b0 m n hm hn _).mono ?_
    rw [HR.out]
    rintro e w3 ⟨rfl, b1⟩
    replace hb := hb.trans (b1.mono hb.size)
    replace f5 := keepz b1 k5 f5
    replace f6 := keepz b1 k6 f6
    replace k5 := keep b1 k5
    replace k6 := keep b1 k6
    clear b1 k1 k2 k3 k4
    go_wp2
    exact bodyPost_ret (v := .tuple #[.agg #[.int .u8 (mx a0 b0), .int .u32 r], .int .i64 0]) (by simp [results, Try.results14, go_sem, *]) rfl ⟨by rw [H3.out]; rfl, by repeat (first | exact hb | refine Below.setCell ?_ (by simp; omega) _)⟩
  · refine (rMay_of b0 n _ _ h2).mono ?_
    rintro e w2 ⟨rfl, b1⟩
    replace hb := hb.trans (b1.mono hb.size)
    replace f5 := keepz b1 k5 f5
    replace f6 := keepz b1 k6 f6
    replace k5 := keep b1 k5
    replace k6 := keep b1 k6
    clear b1 k1 k2 k3 k4
    go_wp2
    exact bodyPost_ret (v := .tuple #[.agg #[.int .u8 0, .int .u32 0], .int .i64 8]) (by simp [results, Try.results14, go_sem, *]) rfl ⟨by rw [H3.out]; rfl, by repeat (first | exact hb | refine Below.setCell ?_ (by simp; omega) _)⟩
  · go_wp2
    exact bodyPost_ret (v := .tuple #[.agg #[.int .u8 0, .int .u32 0], .int .i64 8]) (by simp [results, Try.results14, go_sem, *]) rfl ⟨by rw [H3.out]; rfl, by repeat (first | exact hb | refine Below.setCell ?_ (by simp; omega) _)⟩

set_option maxHeartbeats 1000000 in
theorem rMeet_any (a0 a1 b0 b1 : Int) (ha : Lab a0 a1) (hb : Lab b0 b1) (w : World) :
    Calls Try.prog 15 #[.agg #[.int .u8 a0, .int .u32 a1], .agg #[.int .u8 b0, .int .u32 b1]] w fun e w' =>
      e = .returned (.tuple #[.agg #[.int .u8 (sel (ck2 a0 b0) (mn a0 b0)), .int .u32 (sel (ck2 a0 b0) (an a1 b1))], .int .i64 (ck2 a0 b0)]) ∧ Below w.heap.size w w' := by
  obtain ⟨m, rfl, hm⟩ := nat_of ha.c0 ha.c1
  obtain ⟨n, rfl, hn⟩ := nat_of hb.c0 hb.c1
  have key : (decide (a0 ≤ 15) = true ∧ decide (b0 ≤ 15) = true ∧ ck2 a0 b0 = 0) ∨ (decide (a0 ≤ 15) = true ∧ decide (b0 ≤ 15) = false ∧ ck2 a0 b0 = 8) ∨ (decide (a0 ≤ 15) = false ∧ ck2 a0 b0 = 8) := by
    by_cases h1 : a0 ≤ 15 <;> by_cases h2 : b0 ≤ 15 <;> simp [ck2, ck, h1, h2]
  clear ha hb
  rw [an_nat m n hm hn]
  generalize hR : (m &&& n) = r
  have HR := hid hR
  clear hR
  rcases key with ⟨h1, h2, h3⟩ | ⟨h1, h2, h3⟩ | ⟨h1, h3⟩
  all_goals
    have H3 := hid h3
    clear h3
    go_enter Try.func15, Try.ntmps15
    go_wp2_with fail
    generalize hW : ((w.alloc _).alloc _).alloc _ = W
    have hb : Below w.heap.size w W := by subst hW; go_grown
    have k1 : W.cell? ⟨w.heap.size, 0, none⟩ = some (.int .u8 a0) := by subst hW; simp [go_sem]
    have k2 : W.cell? ⟨w.heap.size, 1, none⟩ = some (.int .u32 m) := by subst hW; simp [go_sem]
    have k3 : W.cell? ⟨w.heap.size + 1, 0, none⟩ = some (.int .u8 b0) := by subst hW; simp [go_sem]
    have k4 : W.cell? ⟨w.heap.size + 1, 1, none⟩ = some (.int .u32 n) := by subst hW; simp [go_sem]
    have k5 : W.cell? ⟨w.heap.size + 1 + 1, 0, none⟩ = some (.int .u8 0) := by subst hW; simp [go_sem]
    have k6 : W.cell? ⟨w.heap.size + 1 + 1, 1, none⟩ = some (.int .u32 0) := by subst hW; simp [go_sem]
    have f5 : W.frozen? ⟨w.heap.size + 1 + 1, 0, none⟩ = false := by subst hW; simp [go_sem]
    have f6 : W.frozen? ⟨w.heap.size + 1 + 1, 1, none⟩ = false := by subst hW; simp [go_sem]
    clear hW
    refine (rMay_of a0 m _ _ h1).mono ?_
    rintro e w1 ⟨rfl, b1⟩
    replace hb := hb.trans (b1.mono hb.size)
    replace f5 := keepz b1 k5 f5
    replace f6 := keepz b1 k6 f6
    replace k1 := keep b1 k1
    replace k2 := keep b1 k2
    replace k3 := keep b1 k3
    replace k4 := keep b1 k4
    replace k5 := keep b1 k5
    replace k6 := keep b1 k6
    clear b1
    go_wp2_with fail
  · refine (rMay_of b0 n _ _ h2).mono ?_
    rintro e w2 ⟨rfl, b1⟩
    replace hb := hb.trans (b1.mono hb.size)
    replace f5 := keepz b1 k5 f5
    replace f6 := keepz b1 k6 f6
    replace k1 := keep b1 k1
    replace k2 := keep b1 k2
    replace k3 := keep b1 k3
    replace k4 := keep b1 k4
    replace k5 := keep b1 k5
    replace k6 := keep b1 k6
    clear b1
    go_wp2_with fail
    refine (rPut_meet a0 b0 m n hm hn _).mono ?_
    rw [HR.out]
    rintro e w3 ⟨rfl, b1⟩
    replace hb := hb.trans (b1.mono hb.size)
    replace f5 := keepz b1 k5 f5
    replace f6 := keepz b1 k6 f6
    replace k5 := keep b1 k5
    replace k6 := keep b1 k6
    clear b1 k1 k2 k3 k4
    go_wp2
    exact bodyPost_ret (v := .tuple #[.agg #[.int .u8 (mn a0 b0), .int .u32 r], .int .i64 0]) (by simp [results, Try.results15, go_sem, *]) rfl ⟨by rw [H3.out]; rfl, by repeat (first | exact hb | refine Below.setCell ?_ (by simp; omega) _)⟩
  · refine (rMay_of b0 n _ _ h2).mono ?_
    rintro e w2 ⟨rfl, b1⟩
    replace hb := hb.trans (b1.mono hb.size)
    replace f5 := keepz b1 k5 f5
    replace f6 := keepz b1 k6 f6
    replace k5 := keep b1 k5
    replace k6 := keep b1 k6
    clear b1 k1 k2 k3 k4
    go_wp2
    exact bodyPost_ret (v := .tuple #[.agg #[.int .u8 0, .int .u32 0], .int .i64 8]) (by simp [results, Try.results15, go_sem, *]) rfl ⟨by rw [H3.out]; rfl, by repeat (first | exact hb | refine Below.setCell ?_ (by simp; omega) _)⟩
  · go_wp2
    exact bodyPost_ret (v := .tuple #[.agg #[.int .u8 0, .int .u32 0], .int .i64 8]) (by simp [results, Try.results15, go_sem, *]) rfl ⟨by rw [H3.out]; rfl, by repeat (first | exact hb | refine Below.setCell ?_ (by simp; omega) _)⟩

theorem rLeq_int (a0 a1 b0 b1 : Int) (ha : Lab a0 a1) (hb : Lab b0 b1) (w : World) :
    Calls Try.prog 21 #[.agg #[.int .u8 a0, .int .u32 a1], .agg #[.int .u8 b0, .int .u32 b1]] w fun e w' => e = .returned (.bool (leqB a0 a1 b0 b1)) ∧ Below w.heap.size w w' := by
  obtain ⟨m, rfl, hm⟩ := nat_of ha.c0 ha.c1
  obtain ⟨n, rfl, hn⟩ := nat_of hb.c0 hb.c1
  exact rLeq_any a0 b0 m n hm hn w
end Go.Proofs.Ythjpiopnaaielaa
