/-
  The document's own answer of layer 1, Put: its contract.
-/
import Derived.Test.YthjpiopnaaielaaLabR
namespace Go.Proofs.Ythjpiopnaaielaa
open Go.RowKit
set_option linter.unusedVariables false

set_option maxHeartbeats 4000000 in
theorem rPut_meet (l l' : Int) (a b : Nat) (ha : a < 4294967296) (hb : b < 4294967296) (w : World) :
    Calls Try.prog 27 #[.agg #[.int .u8 l, .int .u32 a], .agg #[.int .u8 l', .int .u32 b], .bool false] w fun e w' =>
      e = .returned (.agg #[.int .u8 (mn l l'), .int .u32 ((a &&& b : Nat) : Int)]) ∧ Below w.heap.size w w' := by
  obtain ⟨r, hr, hr2⟩ : ∃ r, r = a &&& b ∧ r < 4294967296 := ⟨_, rfl, and_lt ha⟩
  rw [← hr]
  have HR := hid hr
  have HR2 := hid hr2
  clear hr hr2
  go_enter Try.func27, Try.ntmps27
  go_wp2
  go_loopw [8, 9] (fun v8 v9 wr => ∃ k t x : Nat, k ≤ 32 ∧ v8 = .int .u32 t ∧ v9 = .int .i64 k ∧ Bits r k t x ∧ PutRel w l l' a b x wr) (fun _ i _ => 32 - (intOf i).toNat)
  case atStart => exact ⟨0, 1, 0, by omega, rfl, rfl, Bits.zero r, by go_grown, by simp [go_sem], by simp [go_sem], by simp [go_sem], by simp [go_sem], by simp [go_sem], by simp [go_sem], by simp [go_sem], by simp [go_sem], by simp [go_sem], by simp [go_sem], by simp [go_sem], by simp [go_sem]⟩
  case round =>
    obtain ⟨k, t, x, hk, rfl, rfl, hbits, hB, k1, k2, k3, k4, k5, k6, k7, k8, f5, f6, f7, f8⟩ := hrel
    have z := hB.size
    by_cases hlt : k < 32
    · obtain ⟨g1, g2⟩ := hbits.bounds hlt
      cases h1 : a.testBit k <;> cases h2 : b.testBit k
      · go_wp2_with (refine wpList_past ?_; (have q1 := Past.all k1); (have q2 := Past.all k2); (have q3 := Past.all k3); (have q4 := Past.all k4); (repeat (go_big_quiet_step ((go_at_call 28; exact quiet_below (rHas_of _ _ _ _ hlt (by first | exact ha | exact hb) _ (by first | exact h1 | exact h2)))))); (refine wpQuiet_nil ?_); (rintro w2 ⟨⟨_, hx⟩, rfl⟩); (replace hB := hB.trans (hx.mono hB.size)); (replace f5 := keepz hx k5 f5); (replace f6 := keepz hx k6 f6); (replace f7 := keepz hx k7 f7); (replace f8 := keepz hx k8 f8); (replace k1 := keep hx k1); (replace k2 := keep hx k2); (replace k3 := keep hx k3); (replace k4 := keep hx k4); (replace k5 := keep hx k5); (replace k6 := keep hx k6); (replace k7 := keep hx k7); (replace k8 := keep hx k8); (clear q1 q2 q3 q4 hx))
        refine ⟨⟨k + 1, t * 2 % 4294967296, if r.testBit k then x + t else x, by omega, by simp, by go_num, hbits.step hlt rfl rfl, ?_⟩, by simp [intOf]; omega⟩
        have e : r.testBit k = false := by rw [HR.out, Nat.testBit_and, h1, h2]; rfl
        rw [e]
        exact ⟨hB, k1, k2, k3, k4, k5, k6, k7, k8, f5, f6, f7, f8⟩
      · go_wp2_with (refine wpList_past ?_; (have q1 := Past.all k1); (have q2 := Past.all k2); (have q3 := Past.all k3); (have q4 := Past.all k4); (repeat (go_big_quiet_step ((go_at_call 28; exact quiet_below (rHas_of _ _ _ _ hlt (by first | exact ha | exact hb) _ (by first | exact h1 | exact h2)))))); (refine wpQuiet_nil ?_); (rintro w2 ⟨⟨_, hx⟩, rfl⟩); (replace hB := hB.trans (hx.mono hB.size)); (replace f5 := keepz hx k5 f5); (replace f6 := keepz hx k6 f6); (replace f7 := keepz hx k7 f7); (replace f8 := keepz hx k8 f8); (replace k1 := keep hx k1); (replace k2 := keep hx k2); (replace k3 := keep hx k3); (replace k4 := keep hx k4); (replace k5 := keep hx k5); (replace k6 := keep hx k6); (replace k7 := keep hx k7); (replace k8 := keep hx k8); (clear q1 q2 q3 q4 hx))
        refine ⟨⟨k + 1, t * 2 % 4294967296, if r.testBit k then x + t else x, by omega, by simp, by go_num, hbits.step hlt rfl rfl, ?_⟩, by simp [intOf]; omega⟩
        have e : r.testBit k = false := by rw [HR.out, Nat.testBit_and, h1, h2]; rfl
        rw [e]
        exact ⟨hB, k1, k2, k3, k4, k5, k6, k7, k8, f5, f6, f7, f8⟩
      · go_wp2_with (refine wpList_past ?_; (have q1 := Past.all k1); (have q2 := Past.all k2); (have q3 := Past.all k3); (have q4 := Past.all k4); (repeat (go_big_quiet_step ((go_at_call 28; exact quiet_below (rHas_of _ _ _ _ hlt (by first | exact ha | exact hb) _ (by first | exact h1 | exact h2)))))); (refine wpQuiet_nil ?_); (rintro w2 ⟨⟨_, hx⟩, rfl⟩); (replace hB := hB.trans (hx.mono hB.size)); (replace f5 := keepz hx k5 f5); (replace f6 := keepz hx k6 f6); (replace f7 := keepz hx k7 f7); (replace f8 := keepz hx k8 f8); (replace k1 := keep hx k1); (replace k2 := keep hx k2); (replace k3 := keep hx k3); (replace k4 := keep hx k4); (replace k5 := keep hx k5); (replace k6 := keep hx k6); (replace k7 := keep hx k7); (replace k8 := keep hx k8); (clear q1 q2 q3 q4 hx))
        refine ⟨⟨k + 1, t * 2 % 4294967296, if r.testBit k then x + t else x, by omega, by simp, by go_num, hbits.step hlt rfl rfl, ?_⟩, by simp [intOf]; omega⟩
        have e : r.testBit k = false := by rw [HR.out, Nat.testBit_and, h1, h2]; rfl
        rw [e]
        exact ⟨hB, k1, k2, k3, k4, k5, k6, k7, k8, f5, f6, f7, f8⟩
      · go_wp2_with (refine wpList_past ?_; (have q1 := Past.all k1); (have q2 := Past.all k2); (have q3 := Past.all k3); (have q4 := Past.all k4); (repeat (go_big_quiet_step ((go_at_call 28; exact quiet_below (rHas_of _ _ _ _ hlt (by first | exact ha | exact hb) _ (by first | exact h1 | exact h2)))))); (refine wpQuiet_nil ?_); (rintro w2 ⟨⟨_, hx⟩, rfl⟩); (replace hB := hB.trans (hx.mono hB.size)); (replace f5 := keepz hx k5 f5); (replace f6 := keepz hx k6 f6); (replace f7 := keepz hx k7 f7); (replace f8 := keepz hx k8 f8); (replace k1 := keep hx k1); (replace k2 := keep hx k2); (replace k3 := keep hx k3); (replace k4 := keep hx k4); (replace k5 := keep hx k5); (replace k6 := keep hx k6); (replace k7 := keep hx k7); (replace k8 := keep hx k8); (clear q1 q2 q3 q4 hx))
        refine ⟨⟨k + 1, t * 2 % 4294967296, if r.testBit k then x + t else x, by omega, by simp, by go_num, hbits.step hlt rfl rfl, ?_⟩, by simp [intOf]; omega⟩
        have e : r.testBit k = true := by rw [HR.out, Nat.testBit_and, h1, h2]; rfl
        rw [e]
        exact ⟨hB.setCell (by simp; omega) _, by simp [go_sem, *], by simp [go_sem, *], by simp [go_sem, *], by simp [go_sem, *], by simp [go_sem, *], by simp [go_sem, *], by simp [go_sem, *], by simp [go_sem, *], by simp [go_sem, *], by simp [go_sem, *], by simp [go_sem, *], by simp [go_sem, *]⟩
    · obtain rfl : k = 32 := by omega
      have hx : x = r := by rw [hbits.x_eq]; exact Nat.mod_eq_of_lt (by simpa using HR2.out)
      subst hx
      clear hbits
      by_cases hl : l < l'
      · have e : mn l l' = l := by unfold mn; split <;> omega
        have E := hid e
        clear e
        go_wp2
        exact bodyPost_ret (v := .agg #[.int .u8 l, .int .u32 x]) (by simp [results, Try.results27, go_sem, *]) rfl ⟨by rw [E.out], by repeat (first | exact hB | refine Below.setCell ?_ (by simp; omega) _)⟩
      · have e : mn l l' = l' := by unfold mn; split <;> omega
        have E := hid e
        clear e
        go_wp2
        exact bodyPost_ret (v := .agg #[.int .u8 l', .int .u32 x]) (by simp [results, Try.results27, go_sem, *]) rfl ⟨by rw [E.out], by repeat (first | exact hB | refine Below.setCell ?_ (by simp; omega) _)⟩
end Go.Proofs.Ythjpiopnaaielaa
