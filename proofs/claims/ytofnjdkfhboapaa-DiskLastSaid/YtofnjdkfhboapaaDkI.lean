/-
  The document's own answers of layer 12: is a disk more than statements go through?
-/
import Derived.Test.YtofnjdkfhboapaaDkH
namespace Go.Proofs.Ytofnjdkfhboapaa
open Go.RowKit
set_option linter.unusedVariables false
set_option linter.unusedSimpArgs false

def smK (L : List Sct) : Nat := (L.map fun s => min s.b.length 10000).sum
def greatK (d : Dsk) : Bool := decide (200 < d.se.length) || decide (40000 < smK (d.se.take 300))
theorem smK_step (L : List Sct) (j : Nat) (hj : j < L.length) : smK (L.take (j + 1)) = smK (L.take j) + min L[j].b.length 10000 := by
  rw [List.take_succ_eq_append_getElem hj, smK, smK, List.map_append, List.sum_append]
  simp

set_option maxRecDepth 100000 in
set_option maxHeartbeats 3200000 in
theorem kgreat_of (v : Bool) (d : Dsk) (A : Option Addr) (n c : Nat) (hn : Hid (d.se.length = n)) (hv : Hid (greatK d = v)) (w : World) (hr : RdS w A c d.se) :
    Calls Try.prog 14 #[.agg #[.slice A n c, .int .i64 d.st, .int .i64 d.lf, .bool d.dd]] w fun e w' => e = .returned (.bool v) ∧ Below w.heap.size w w' := by
  have hc2 : (c : Int) ≤ 9223372036854775807 := by have := hr.cap; omega
  have hc1 : (n : Int) ≤ c := by have := hr.len; have := hn.out; omega
  have xa := boxK_new w d A n c 24
  have hb0 := below1 w (.cells (#[.slice A n c, .int .i64 d.st, .int .i64 d.lf, .bool d.dd]) 24)
  have HR := hid hr
  clear hr
  go_enter Try.func14, Try.ntmps14
  go_wp2
  generalize World.alloc w _ = W at xa hb0 ⊢
  go_loopw [3, 4] (fun s i wr => ∃ (j k : Nat), j ≤ n ∧ j ≤ 300 ∧ s = .int .i64 (k : Int) ∧ k ≤ j * 10000 ∧ i = .int .i64 (j : Int) ∧ Hid (smK (d.se.take j) = k) ∧ Below W.heap.size W wr) (fun _ i _ => n - (intOf i).toNat)
  case atStart => exact ⟨0, 0, by omega, by omega, rfl, by omega, rfl, hid rfl, Below.refl _ _⟩
  case round =>
    obtain ⟨j, k, hj, hj3, rfl, hk, rfl, hs, hb⟩ := hrel
    have hbw := below_in hb0 hb
    have x0 := (xa.keep hb).sl
    by_cases hjn : j < n
    · have hlt2 : (j : Int) < (n : Int) := by omega
      by_cases hj4 : j < 300
      · have hlt3 : (j : Int) < 300 := by omega
        have hjl : j < d.se.length := by rw [hn.out]; exact hjn
        obtain ⟨b, o, rfl, hcell⟩ := (HR.out.keep hbw).at_ (by omega)
        obtain ⟨X, x, y0, y1, hX⟩ := hcell j hjl
        have hst := smK_step d.se j hjl
        obtain ⟨p, hp⟩ : ∃ p, d.se[j].b.length = p := ⟨_, rfl⟩
        rw [hp] at y1 hst
        obtain ⟨r, hr⟩ : ∃ r, min p 10000 = r := ⟨_, rfl⟩
        rw [hr, hs.out] at hst
        have hr4 : r ≤ 10000 := by omega
        have hmin : ∀ (ts : Array TypeId) (ty : TypeId) (W : World), (Builtin.min_ ts ty #[.int .i64 (p : Int), .int .i64 10000]).run Try.prog W = .ok (.int .i64 (r : Int)) W := fun ts ty W => by
          rw [run_min_int2]
          have e : (if (10000 : Int) < (p : Int) then (10000 : Int) else (p : Int)) = (r : Int) := by split <;> omega
          rw [e]
        have HST := hid hst
        clear hX y0 hcell hp hr hst hjl
        go_wp2
        go_roundw
        case rel => exact ⟨j + 1, k + r, by omega, by omega, by go_num, by omega, by go_num, HST, hb⟩
        case measure => simp [intOf]; omega
      · have hlt3 : ¬ (j : Int) < 300 := by omega
        have ej : j = 300 := by omega
        subst ej
        have hv' := hv.out
        rw [greatK, hs.out, hn.out] at hv'
        by_cases h2 : 200 < n
        · have e2 : (200 : Int) < (n : Int) := by omega
          obtain rfl : true = v := by rw [← hv']; simp [h2]
          go_wp2
          go_ret
          exact ⟨rfl, hbw⟩
        · omega
    · have hlt2 : ¬ (j : Int) < (n : Int) := by omega
      have ej : j = n := by omega
      subst ej
      have hv' := hv.out
      rw [greatK, show d.se.take 300 = d.se.take j by rw [List.take_of_length_le (by have := hn.out; omega), List.take_of_length_le (by have := hn.out; omega)], hs.out, hn.out] at hv'
      by_cases h2 : 200 < j
      · have e2 : (200 : Int) < (j : Int) := by omega
        obtain rfl : true = v := by rw [← hv']; simp [h2]
        go_wp2
        go_ret
        exact ⟨rfl, hbw⟩
      · have e2 : ¬ (200 : Int) < (j : Int) := by omega
        obtain ⟨q, hq⟩ : ∃ q, decide ((40000 : Int) < (k : Int)) = q := ⟨_, rfl⟩
        have e : decide (40000 < k) = q := by rw [← hq]; exact decide_eq_decide.2 (by omega)
        obtain rfl : q = v := by rw [← hv', e]; simp [h2]
        go_wp2
        go_ret
        exact ⟨rfl, hbw⟩
end Go.Proofs.Ytofnjdkfhboapaa
