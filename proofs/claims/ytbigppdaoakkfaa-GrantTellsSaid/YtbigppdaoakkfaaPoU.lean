/-
  The contract of the reference's Twin.
-/
import Derived.Test.YtbigppdaoakkfaaPoT
namespace Go.Proofs.Ytbigppdaoakkfaa
open Go.RowKit
set_option linter.unusedVariables false
set_option linter.unusedSimpArgs false

set_option maxRecDepth 100000 in
set_option maxHeartbeats 2000000 in
theorem rTwin_of (A : Option Addr) (n c : Nat) (B : Option Addr) (m d : Nat) (g : Int) (us : List Cl) (qs : List Qt) (hn0 : n ≤ 1000) (hm0 : m ≤ 1000) (w : World) (hp : Pol w A n c B m d g us qs) :
    Calls Try.prog 18 #[.agg #[.slice A n c, .slice B m d, .int .i64 g]] w fun e w' => ∃ A' c' B' d', e = .returned (.agg #[.slice A' n c', .slice B' m d', .int .i64 g]) ∧ OwnC w' w.heap.size A' c' us ∧ OwnQ w' w.heap.size B' d' qs ∧ Below w.heap.size w w' := by
  obtain ⟨i0, hi0, hz0, hz1, hz2⟩ := info_parts info_C
  obtain ⟨j0, hj0, hy0, hy1, hy2⟩ := info_parts info_Q
  have HP := hid hp
  clear hp
  go_enter Try.func18, Try.ntmps18
  go_wp2_with fail
  generalize hW : (w.alloc _).alloc _ = W
  have hbW : Below w.heap.size w W := by subst hW; go_grown
  have hzW : w.heap.size + 1 + 1 = W.heap.size := by subst hW; simp
  have hzW1 : w.heap.size + 1 ≤ W.heap.size := by omega
  (have s0 : W.cell? ⟨w.heap.size, 0, none⟩ = some (.slice A n c) := ((by subst hW; simp [go_sem])); have s1 : W.cell? ⟨w.heap.size, 1, none⟩ = some (.slice B m d) := ((by subst hW; simp [go_sem])); have s2 : W.cell? ⟨w.heap.size, 2, none⟩ = some (.int .i64 g) := ((by subst hW; simp [go_sem])))
  (have t0 : W.cell? ⟨w.heap.size + 1, 0, none⟩ = some (.slice none 0 0) := ((by subst hW; simp [go_sem])); have t1 : W.cell? ⟨w.heap.size + 1, 1, none⟩ = some (.slice none 0 0) := ((by subst hW; simp [go_sem])); have t2 : W.cell? ⟨w.heap.size + 1, 2, none⟩ = some (.int .i64 0) := ((by subst hW; simp [go_sem])))
  (have f0 : W.frozen? ⟨w.heap.size + 1, 0, none⟩ = false := ((by subst hW; simp [go_sem])); have f1 : W.frozen? ⟨w.heap.size + 1, 1, none⟩ = false := ((by subst hW; simp [go_sem])); have f2 : W.frozen? ⟨w.heap.size + 1, 2, none⟩ = false := ((by subst hW; simp [go_sem])))
  clear hW
  have q0 : ∀ w', Below (w.heap.size + 1) W w' → w'.cell? ⟨w.heap.size, 0, none⟩ = some (.slice A n c) := fun w' h => keepB h (by show w.heap.size < _; omega) s0
  have q1 : ∀ w', Below (w.heap.size + 1) W w' → w'.cell? ⟨w.heap.size, 1, none⟩ = some (.slice B m d) := fun w' h => keepB h (by show w.heap.size < _; omega) s1
  have q2 : ∀ w', Below (w.heap.size + 1) W w' → w'.cell? ⟨w.heap.size, 2, none⟩ = some (.int .i64 g) := fun w' h => keepB h (by show w.heap.size < _; omega) s2
  (have r0 := fun w' (h : Below W.heap.size W w') => keep h t0; have r1 := fun w' (h : Below W.heap.size W w') => keep h t1; have r2 := fun w' (h : Below W.heap.size W w') => keep h t2)
  have k0 : ∀ w', Below W.heap.size W w' → w'.frozen? ⟨w.heap.size + 1, 0, none⟩ = false := fun w' h => keepz h t0 f0
  have k1 : ∀ w', Below W.heap.size W w' → w'.frozen? ⟨w.heap.size + 1, 1, none⟩ = false := fun w' h => keepz h t1 f1
  have k2 : ∀ w', Below W.heap.size W w' → w'.frozen? ⟨w.heap.size + 1, 2, none⟩ = false := fun w' h => keepz h t2 f2
  have S0 : Below (w.heap.size + 1) W W.drew := (Below.refl _ _).drew
  have c0 : Below W.heap.size W W.drew := (Below.refl _ _).drew
  have hg1 : w.heap.size + 1 ≤ w.heap.size + 1 := Nat.le_refl _
  clear s0 s1 s2 t0 t1 t2 f0 f1 f2
  go_region_held_law (fun w' => Below (w.heap.size + 1) W w') (with_reducible (first | assumption | exact set3 (by assumption) hg1 _ _ _))
    (first
      | (refine step_append_s rfl (.const (.slice none 0 0)) (.tmp 4) _ (by rfl) _ 34 Cl.cs_length (by omega) Cl.cs_one Try.underlying22 hi0 hz0 rfl hz1 hz2 (by omega) none 0 0 [] (hid rfl) (by rfl) (Owns.nil _ _ _) A n c us (hid HP.out.hn) (by rfl) (HP.out.hu.1.keep (below_in hbW (by assumption))) (by omega) (Nat.le_refl _) ?_; intro A' c' w1 hown1 hb1; have c1 := below_in (w := W) (by assumption) hb1; have d1 := c1.mono hzW1)
      | (refine step_append_s rfl (.const (.slice none 0 0)) (.tmp 7) _ (by rfl) _ 67 Qt.cs_length (by omega) Qt.cs_one Try.underlying23 hj0 hy0 rfl hy1 hy2 (by omega) none 0 0 [] (hid rfl) (by rfl) (Owns.nil _ _ _) B m d qs (hid HP.out.hm) (by rfl) (HP.out.hq.1.keep (below_in hbW (by assumption))) (by omega) (Nat.le_refl _) ?_; intro B' d' w2 hown2 hb2; have c2 := below_in (w := W) (by assumption) hb2; have d2 := c2.mono hzW1))
  have u0 := r0 _ c2
  have u1 := r1 _ c2
  have u2 := r2 _ c2
  have hz := c1.size
  have hB := below_in hbW c2
  have ho1 := hown1.keep hb2
  clear q0 q1 q2 r0 r1 r2 k0 k1 k2 hb1 hb2 c1 c2 d1 d2 c0 S0
  go_wp2
  exact bodyPost_ret (v := .agg #[.slice A' n c', .slice B' m d', .int .i64 g]) (by simp [results, Try.results18, go_sem, u0, u1, u2]) rfl ⟨A', c', B', d', rfl, ⟨(((ho1.set (by show w.heap.size + 1 < W.heap.size; omega) _).set (by show w.heap.size + 1 < W.heap.size; omega) _).set (by show w.heap.size + 1 < W.heap.size; omega) _).mono (by show w.heap.size ≤ W.heap.size; omega), HP.out.hu.2⟩, ⟨(((hown2.set (by show w.heap.size + 1 < _; omega) _).set (by show w.heap.size + 1 < _; omega) _).set (by show w.heap.size + 1 < _; omega) _).mono (by omega), HP.out.hq.2⟩, set3 hB (by omega) _ _ _⟩
end Go.Proofs.Ytbigppdaoakkfaa
