/-
  The contract of the reference's Right.
-/
import Derived.Test.YtaffpagbofkopaaSumR
import Derived.BigQuiet
import Derived.Deep.RegionHeld
namespace Go.Proofs.Ytaffpagbofkopaa
open Go.RowKit
set_option linter.unusedVariables false

theorem below_step {wo W w2 : World} (h : Below wo.heap.size wo W) (h2 : Below W.heap.size W w2) : Below wo.heap.size wo w2 := h.trans (h2.mono h.size)

/-- Bytes, what it answers read by its list. -/
theorem refbytes_rd (z : Int) (s : Nat) (hz : Hid (z = (s : Int))) (hs : s < 4294967296) (w : World) :
    Calls Try.prog 13 #[.int .u32 z] w fun e w' => ∃ A, e = .returned (.slice A 3 3) ∧ Rd w' A 3 (three s) ∧ Below w.heap.size w w' := by
  have e := hz.out
  subst e
  refine (refbytes_any s hs w).mono ?_
  rintro e w' ⟨rfl, rfl⟩
  exact ⟨_, rfl, lit_rd w (three s) (by rw [three_length]; omega), (Below.refl _ _).alloc (Nat.le_refl _) _⟩

set_option maxRecDepth 100000 in
set_option maxHeartbeats 2000000 in
theorem refright_any (A : Option Addr) (n c : Nat) (l : List UInt8) (hn : Hid (l.length = n)) (w : World) (hr : Rd w A c l) :
    Calls Try.prog 14 #[.slice A n c] w fun e w' => e = .returned (.bool (rightB l)) ∧ Below w.heap.size w w' := by
  have hc2 : (c : Int) ≤ 9223372036854775807 := by have := hr.cap; omega
  have hc1 : (n : Int) ≤ c := by have := hr.len; have := hn.out; omega
  have hl := hn.out
  by_cases h3 : n < 3
  · have H := hid (show rightB l = false by simp [rightB]; omega)
    have h3' : decide (3 ≤ (n : Int)) = false := by simp; omega
    clear h3 hl
    go_enter Try.func14, Try.ntmps14
    go_wp2_with fail
    refine wp_region_past (by kernel_rfl) (by kernel_rfl) ?_
    repeat (go_big_quiet_step (fail))
    refine wpQuiet_nil ?_
    rintro _ ⟨⟨w7, hx⟩, rfl⟩
    go_wp2
    go_ret
    exact ⟨ret_bool H.out.symm, hx⟩
  · obtain ⟨b, o, rfl, hcell⟩ := hr.at_ (by omega)
    obtain ⟨k, rfl⟩ : ∃ k, n = k + 3 := ⟨n - 3, by omega⟩
    have HK := hid (show (l.take k).length = k by rw [List.length_take]; omega)
    have HD := hid (show (l.drop k).length = 3 by rw [List.length_drop]; omega)
    have H := hid (right_drop l k hl)
    have hm := sm_lt first_lt (l.take k)
    have hrd := hr.drop k (by omega)
    have hck : ¬ c = k := by omega
    have hkc : (k : Int) ≤ (c : Int) := by omega
    have hk3 : (k : Int) ≤ (k : Int) + 3 := by omega
    clear hcell hl h3
    obtain ⟨z, hz⟩ : ∃ z, sumOf (l.take k) = z := ⟨_, rfl⟩
    have HZ := hid hz
    have HZ2 := hid (show z = (sm first (l.take k) : Nat) by rw [← hz]; rfl)
    clear hz
    go_enter Try.func14, Try.ntmps14
    go_wp2_with fail
    have hconv : ∀ w' : World, Below w.heap.size w w' → (convert 26 9 (.slice (some ⟨b, o + k, none⟩) 3 (c - k))).run Try.prog w' = .ok (.string ⟨(l.drop k).toArray⟩) w' := fun w' h => rd_string HD (hrd.keep h)
    go_region_held (fun w' => Below w.heap.size w w') (first | assumption | exact (Below.refl _ _).drew | exact below_step (by assumption) hb1) (first | (go_at_call 12; refine (refof_of z (some ⟨b, o, none⟩) k c (l.take k) HK HZ _ ((hr.keep (by assumption)).take k)).mono ?_; rintro e w1 ⟨rfl, rfl⟩) | (go_at_call 13; refine (refbytes_rd z _ HZ2 (by omega) _).mono ?_; rintro e w2 ⟨A1, rfl, hr1, hb1⟩; have s1 := rd_string (hid (three_length _)) hr1))
    all_goals (go_wp2; go_ret; exact ⟨ret_bool H.out.symm, by assumption⟩)
end Go.Proofs.Ytaffpagbofkopaa
