/-
  The contracts of the reference's Bytes, PutHandle and Put.
-/
import Derived.Test.YtbhglgcnoidddaaIdR
namespace Go.Proofs.Ytbhglgcnoidddaa
open Go.RowKit
set_option linter.unusedVariables false

set_option maxRecDepth 100000 in
set_option maxHeartbeats 1600000 in
theorem bytes_any (l c k n : Int) (a b d : Nat) (h : Hid (Hn l c k a b d)) (n0 : 0 ≤ n) (n1 : n < 9223372036854775808) (w : World) :
    Calls Try.prog 70 #[.agg #[.int .u8 l, .int .u32 c, .int .u8 k, .int .i64 n]] w fun e w' => ∃ A' c', e = .returned (.slice A' 13 c') ∧ Rd w' A' c' (iby a b d n.toNat) ∧ Below w.heap.size w w' := by
  obtain ⟨i0, hi0, hz0, hz1, hz2⟩ := info_parts info_u8
  have HN := hid (show ((n.toNat : Nat) : Int) = n by omega)
  go_enter Try.func70, Try.ntmps70
  go_wp2_with fail
  generalize hW : w.alloc _ = W
  have hbW : Below w.heap.size w W := by subst hW; go_grown
  (have s0 : W.cell? ⟨w.heap.size, 0, none⟩ = some (.int .u8 l) := ((by subst hW; simp [go_sem])); have s1 : W.cell? ⟨w.heap.size, 1, none⟩ = some (.int .u32 c) := ((by subst hW; simp [go_sem])); have s2 : W.cell? ⟨w.heap.size, 2, none⟩ = some (.int .u8 k) := ((by subst hW; simp [go_sem])); have s3 : W.cell? ⟨w.heap.size, 3, none⟩ = some (.int .i64 n) := ((by subst hW; simp [go_sem])))
  clear hW
  (have q0 := fun w' (h : Below W.heap.size W w') => keep h s0; have q1 := fun w' (h : Below W.heap.size W w') => keep h s1; have q2 := fun w' (h : Below W.heap.size W w') => keep h s2; have q3 := fun w' (h : Below W.heap.size W w') => keep h s3)
  have S0 : Below W.heap.size W W.drew := (Below.refl _ _).drew
  go_region_held_law (fun w' => Below W.heap.size W w') (with_reducible (first | assumption | exact S0 | exact below_step S0 hb1 | exact below_step S0 hb2 | exact below_step (below_step S0 hb1) hb2 | exact below_step (below_step S0 hb2) hb1 | exact (below_step (below_step S0 hb1) hb2).trans hb3 | exact (below_step (below_step S0 hb2) hb1).trans hb3))
    (first
      | (refine step_append_rd rfl (.tmp 5) (.tmp 8) _ (by rfl) W.heap.size 5 Try.underlying44 hi0 hz0 hz1 hz2 A1 6 c1 (hby a b d) (hid (hby_length _ _ _)) (by rfl) ((ho1.mono (Nat.le_refl _)).keep hb2) A2 7 c2 (dg 7 n.toNat) (hid (dg_length _ _)) (by rfl) hr2 (by omega) (by exact Below.size (w := W) (by assumption)) ?_; intro A' c' w4 ho hb3)
      | (refine step_append_rd rfl (.tmp 5) (.tmp 8) _ (by rfl) W.heap.size 5 Try.underlying44 hi0 hz0 hz1 hz2 A1 6 c1 (hby a b d) (hid (hby_length _ _ _)) (by rfl) (ho1.mono hb2.size) A2 7 c2 (dg 7 n.toNat) (hid (dg_length _ _)) (by rfl) (hr2.keep hb1) (by omega) (by exact Below.size (w := W) (by assumption)) ?_; intro A' c' w4 ho hb3)
      | (go_simp; go_at_call 86; refine (wide_of n.toNat n 7 7 HN n0 n1 (hid rfl) (by omega) _).mono ?_; rintro e w3 ⟨A2, c2, rfl, hr2, hb2⟩)
      | (go_simp; go_at_call 69; refine (named_any l c k a b d h _).mono ?_; rintro e w2 ⟨A1, c1, rfl, ho1, hb1⟩))
  all_goals
    have hB : Below W.heap.size W w4 := by assumption
    have hb := below_in hbW hB
    clear q0 q1 q2 q3 s0 s1 s2 s3 S0 ho1 hr2 hb1 hb2 hb3
    go_simp
    go_wp2
    go_ret
    exact ⟨A', c', rfl, ho.rd, hb⟩
end Go.Proofs.Ytbhglgcnoidddaa
