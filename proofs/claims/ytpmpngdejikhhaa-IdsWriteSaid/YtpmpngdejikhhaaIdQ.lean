/-
  The contracts of the reference's Bytes, PutHandle and Put.
-/
import Derived.Test.YtpmpngdejikhhaaIdR
namespace Go.Proofs.Ytpmpngdejikhhaa
open Go.RowKit
set_option linter.unusedVariables false

set_option maxRecDepth 100000 in
set_option maxHeartbeats 1600000 in
theorem bytes_any (l c k n : Int) (a b d : Nat) (h : Hid (Hn l c k a b d)) (n0 : 0 ≤ n) (n1 : n < 9223372036854775808) (w : World) :
    Calls Try.prog 45 #[.agg #[.int .u8 l, .int .u32 c, .int .u8 k, .int .i64 n]] w fun e w' => ∃ A' c', e = .returned (.slice A' 13 c') ∧ Rd w' A' c' (iby a b d n.toNat) ∧ Below w.heap.size w w' := by
  obtain ⟨i0, hi0, hz0, hz1, hz2⟩ := info_parts info_u8
  have HN := hid (show ((n.toNat : Nat) : Int) = n by omega)
  go_enter Try.func45, Try.ntmps45
  go_wp2_with fail
  generalize hW : w.alloc _ = W
  have hbW : Below w.heap.size w W := by subst hW; go_grown
  (have s0 : W.cell? ⟨w.heap.size, 0, none⟩ = some (.int .u8 l) := ((by subst hW; simp [go_sem])); have s1 : W.cell? ⟨w.heap.size, 1, none⟩ = some (.int .u32 c) := ((by subst hW; simp [go_sem])); have s2 : W.cell? ⟨w.heap.size, 2, none⟩ = some (.int .u8 k) := ((by subst hW; simp [go_sem])); have s3 : W.cell? ⟨w.heap.size, 3, none⟩ = some (.int .i64 n) := ((by subst hW; simp [go_sem])))
  clear hW
  (have q0 := fun w' (h : Below W.heap.size W w') => keep h s0; have q1 := fun w' (h : Below W.heap.size W w') => keep h s1; have q2 := fun w' (h : Below W.heap.size W w') => keep h s2; have q3 := fun w' (h : Below W.heap.size W w') => keep h s3)
  have S0 : Below W.heap.size W W.drew := (Below.refl _ _).drew
  go_region_held_law (fun w' => Below W.heap.size W w') (with_reducible (first | assumption | exact S0 | exact below_step S0 hb1 | exact below_step S0 hb2 | exact below_step (below_step S0 hb1) hb2 | exact below_step (below_step S0 hb2) hb1 | exact (below_step (below_step S0 hb1) hb2).trans hb3 | exact (below_step (below_step S0 hb2) hb1).trans hb3))
    (first
      | (refine step_append_rd rfl (.tmp 5) (.tmp 8) _ (by rfl) W.heap.size 5 Try.underlying40 hi0 hz0 hz1 hz2 A1 6 c1 (hby a b d) (hid (hby_length _ _ _)) (by rfl) ((ho1.mono (Nat.le_refl _)).keep hb2) A2 7 c2 (dg 7 n.toNat) (hid (dg_length _ _)) (by rfl) hr2 (by omega) (by exact Below.size (w := W) (by assumption)) ?_; intro A' c' w4 ho hb3)
      | (refine step_append_rd rfl (.tmp 5) (.tmp 8) _ (by rfl) W.heap.size 5 Try.underlying40 hi0 hz0 hz1 hz2 A1 6 c1 (hby a b d) (hid (hby_length _ _ _)) (by rfl) (ho1.mono hb2.size) A2 7 c2 (dg 7 n.toNat) (hid (dg_length _ _)) (by rfl) (hr2.keep hb1) (by omega) (by exact Below.size (w := W) (by assumption)) ?_; intro A' c' w4 ho hb3)
      | (go_simp; go_at_call 50; refine (wide_of n.toNat n 7 7 HN n0 n1 (hid rfl) (by omega) _).mono ?_; rintro e w3 ⟨A2, c2, rfl, hr2, hb2⟩)
      | (go_simp; go_at_call 46; refine (named_any l c k a b d h _).mono ?_; rintro e w2 ⟨A1, c1, rfl, ho1, hb1⟩))
  all_goals
    have hB : Below W.heap.size W w4 := by assumption
    have hb := below_in hbW hB
    clear q0 q1 q2 q3 s0 s1 s2 s3 S0 ho1 hr2 hb1 hb2 hb3
    go_simp
    go_wp2
    go_ret
    exact ⟨A', c', rfl, ho.rd, hb⟩

set_option maxHeartbeats 800000 in
theorem rPutHandle_of (L : List UInt8) (m : Nat) (j : Int) (l c k : Int) (a b d : Nat) (h : Hid (Hn l c k a b d)) (hL : Hid ((if mayH l k = true then hby a b d else []) = L ∧ L.length = m ∧ er (mayH l k) = j)) (w : World) :
    Calls Try.prog 29 #[.agg #[.int .u8 l, .int .u32 c, .int .u8 k]] w fun e w' => ∃ A' c', e = .returned (.tuple #[.slice A' m c', .int .i64 j]) ∧ Rd w' A' c' L ∧ Below w.heap.size w w' := by
  go_enter Try.func29, Try.ntmps29
  cases hq : mayH l k
  · obtain ⟨h1, h2, h3⟩ := hL.out
    rw [if_neg (by simp [hq])] at h1
    rw [hq] at h3
    subst h1 h2 h3
    have HQ := hid hq
    clear hq hL
    go_wp2_with fail
    refine (mayHandle_any l c k _).mono ?_
    rw [HQ.out]
    rintro e w1 ⟨rfl, b1⟩
    go_wp2_with fail
    go_ret2
    exact ⟨none, 0, rfl, Rd.nil _, below_in (by go_grown) b1⟩
  · obtain ⟨h1, h2, h3⟩ := hL.out
    rw [if_pos hq] at h1
    rw [hq] at h3
    rw [← h1, hby_length] at h2
    subst h1 h2 h3
    have HQ := hid hq
    clear hq hL
    go_wp2_with fail
    refine (mayHandle_any l c k _).mono ?_
    rw [HQ.out]
    rintro e w1 ⟨rfl, b1⟩
    have hb : Below w.heap.size w w1 := below_in (by go_grown) b1
    (have x0 : w1.cell? ⟨w.heap.size, 0, none⟩ = some (.int .u8 l) := (keep b1 (by simp)); have x1 : w1.cell? ⟨w.heap.size, 1, none⟩ = some (.int .u32 c) := (keep b1 (by simp)); have x2 : w1.cell? ⟨w.heap.size, 2, none⟩ = some (.int .u8 k) := (keep b1 (by simp)))
    clear b1
    go_wp2_with fail
    refine (named_any l c k a b d h _).mono ?_
    rintro e w2 ⟨A1, c1, rfl, ho, b1⟩
    go_wp2
    go_ret2
    exact ⟨A1, c1, rfl, ho.rd, below_in hb b1⟩

set_option maxHeartbeats 800000 in
theorem rPut_of (L : List UInt8) (m : Nat) (j : Int) (l c k n : Int) (a b d : Nat) (h : Hid (Hn l c k a b d)) (hL : Hid ((if mayI l k n = true then iby a b d n.toNat else []) = L ∧ L.length = m ∧ er (mayI l k n) = j)) (w : World) :
    Calls Try.prog 28 #[.agg #[.int .u8 l, .int .u32 c, .int .u8 k, .int .i64 n]] w fun e w' => ∃ A' c', e = .returned (.tuple #[.slice A' m c', .int .i64 j]) ∧ Rd w' A' c' L ∧ Below w.heap.size w w' := by
  go_enter Try.func28, Try.ntmps28
  cases hq : mayI l k n
  · obtain ⟨h1, h2, h3⟩ := hL.out
    rw [if_neg (by simp [hq])] at h1
    rw [hq] at h3
    subst h1 h2 h3
    have HQ := hid hq
    clear hq hL
    go_wp2_with fail
    refine (mayId_any l c k n _).mono ?_
    rw [HQ.out]
    rintro e w1 ⟨rfl, b1⟩
    go_wp2_with fail
    go_ret2
    exact ⟨none, 0, rfl, Rd.nil _, below_in (by go_grown) b1⟩
  · obtain ⟨h1, h2, h3⟩ := hL.out
    rw [if_pos hq] at h1
    rw [hq] at h3
    rw [← h1, iby_length] at h2
    subst h1 h2 h3
    have hn : 1 ≤ n ∧ n ≤ 1099511627776 := by simp [mayI] at hq; omega
    have n0 : 0 ≤ n := by omega
    have n1 : n < 9223372036854775808 := by omega
    have HQ := hid hq
    clear hq hL hn
    go_wp2_with fail
    refine (mayId_any l c k n _).mono ?_
    rw [HQ.out]
    rintro e w1 ⟨rfl, b1⟩
    have hb : Below w.heap.size w w1 := below_in (by go_grown) b1
    (have x0 : w1.cell? ⟨w.heap.size, 0, none⟩ = some (.int .u8 l) := (keep b1 (by simp)); have x1 : w1.cell? ⟨w.heap.size, 1, none⟩ = some (.int .u32 c) := (keep b1 (by simp)); have x2 : w1.cell? ⟨w.heap.size, 2, none⟩ = some (.int .u8 k) := (keep b1 (by simp)); have x3 : w1.cell? ⟨w.heap.size, 3, none⟩ = some (.int .i64 n) := (keep b1 (by simp)))
    clear b1
    go_wp2_with fail
    refine (bytes_any l c k n a b d h n0 n1 _).mono ?_
    rintro e w2 ⟨A1, c1, rfl, ho, b1⟩
    go_wp2
    go_ret2
    exact ⟨A1, c1, rfl, ho, below_in hb b1⟩
end Go.Proofs.Ytpmpngdejikhhaa
