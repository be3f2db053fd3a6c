/-
  The contracts of frame.Class, frame.told, bytes.Clone.
-/
import Derived.Test.YthnjonabofabkaaDoorFrM
import Derived.Test.YthnjonabofabkaaDoorFrZ
namespace Go.Proofs.YthnjonabofabkaaDoor
open Go.RowKit
set_option linter.unusedVariables false

/-- The variable 'classes' as it was laid. -/
structure Tab (w : World) : Prop where
  c0 : w.cell? ⟨0, 0, none⟩ = some (.int .i64 64)
  c1 : w.cell? ⟨0, 1, none⟩ = some (.int .i64 256)
  c2 : w.cell? ⟨0, 2, none⟩ = some (.int .i64 1024)
theorem Tab.keep {w w' : World} (hb : Below w.heap.size w w') (h : Tab w) : Tab w' := ⟨Go.Proofs.YthnjonabofabkaaDoor.keep hb h.c0, Go.Proofs.YthnjonabofabkaaDoor.keep hb h.c1, Go.Proofs.YthnjonabofabkaaDoor.keep hb h.c2⟩

def clV (n : Int) : Int := if 0 ≤ n ∧ n ≤ 1000 then (cl n.toNat : Int) else 0
def clE (n : Int) : Int := if 0 ≤ n ∧ n ≤ 1000 then 0 else 4
theorem cl_not {n : Int} (h : ¬ (0 ≤ n ∧ n ≤ 1000)) : clV n = 0 ∧ clE n = 4 := by simp only [clV, clE, if_neg h, and_self]
theorem cl_yes {n : Nat} (h : n ≤ 1000) : clV n = cl n ∧ clE n = 0 := by
  have h' : 0 ≤ (n : Int) ∧ (n : Int) ≤ 1000 := by omega
  simp only [clV, clE, if_pos h', Int.toNat_natCast, and_self]
theorem sz_small {n : Nat} (h : n ≤ 1000) : sz (n : Int) = (enc n).length := by rw [sz, putB_of (lt_most h)]

set_option maxHeartbeats 800000 in
theorem class_any (n : Int) (w : World) (ht : Tab w) :
    Calls Tryd.prog 10 #[.int .i64 n] w fun e w' => e = .returned (.tuple #[.int .i64 (clV n), .int .i64 (clE n)]) ∧ w = w' := by
  obtain ⟨t0, t1, t2⟩ := ht
  by_cases hn : 0 ≤ n ∧ n ≤ 1000
  · obtain ⟨m, rfl⟩ : ∃ m : Nat, n = (m : Int) := ⟨n.toNat, by omega⟩
    have hm : m ≤ 1000 := by omega
    obtain ⟨k, hk⟩ : ∃ k, (enc m).length = k := ⟨_, rfl⟩
    have hk3 := enc_small hm
    have HS := hid (show sz (m : Int) = (k : Int) by rw [sz_small hm, hk])
    have HV := hid (cl_yes hm)
    have hn1 : (m : Int) ≤ 1000 := by omega
    have hn0 : 0 ≤ (m : Int) := by omega
    rw [hk] at hk3
    have hk1 : (1 : Int) ≤ (k : Int) := by omega
    have hk4 : (k : Int) ≤ 3 := by omega
    have HC : Hid ((1 + k + m + 3 ≤ 64 ∧ cl m = 64) ∨ (¬ 1 + k + m + 3 ≤ 64 ∧ 1 + k + m + 3 ≤ 256 ∧ cl m = 256) ∨ (¬ 1 + k + m + 3 ≤ 64 ∧ ¬ 1 + k + m + 3 ≤ 256 ∧ cl m = 1024)) := by
      unfold Hid
      rw [cl, hk]
      split
      · exact .inl ⟨by assumption, rfl⟩
      · split
        · exact .inr (.inl ⟨by assumption, by assumption, rfl⟩)
        · exact .inr (.inr ⟨by assumption, by assumption, rfl⟩)
    clear hn hm hk hk3
    go_enter Tryd.func10, Tryd.ntmps10
    go_wp2_with (go_at_call 20; refine (size_of (m : Int) (k : Int) HS _).mono ?_; rintro e w' ⟨rfl, rfl⟩)
    go_loop [18] (fun i => ∃ j : Nat, j ≤ 2 ∧ i = .int .i64 (j : Int) ∧ Hid ((0 < j → ¬ 1 + k + m + 3 ≤ 64) ∧ (1 < j → ¬ 1 + k + m + 3 ≤ 256))) (fun i => 3 - (intOf i).toNat)
    case atStart => exact ⟨0, by omega, rfl, hid ⟨by omega, by omega⟩⟩
    case round =>
      obtain ⟨j, hj, rfl, HJ⟩ := hrel
      have h012 : j = 0 ∨ j = 1 ∨ j = 2 := by omega
      clear hj
      rcases h012 with rfl | rfl | rfl
      · by_cases hf : 1 + k + m + 3 ≤ 64
        · have hf2 : 1 + (k : Int) + (m : Int) + 3 ≤ 64 := by omega
          have H := hid (show clV (m : Int) = 64 by have := HC.out; rw [HV.out.1]; omega)
          clear hf
          go_wp2
          go_ret2
          exact ⟨by rw [H.out, HV.out.2]; rfl, rfl⟩
        · have hf2 : ¬ 1 + (k : Int) + (m : Int) + 3 ≤ 64 := by omega
          have H := hid hf
          clear hf
          go_wp2
          go_round
          case rel => exact ⟨1, by omega, by go_num, hid ⟨fun _ => H.out, by omega⟩⟩
          case measure => simp [intOf]
      · by_cases hf : 1 + k + m + 3 ≤ 256
        · have hf2 : 1 + (k : Int) + (m : Int) + 3 ≤ 256 := by omega
          have H := hid (show clV (m : Int) = 256 by have := HC.out; have := HJ.out; rw [HV.out.1]; omega)
          clear hf
          go_wp2
          go_ret2
          exact ⟨by rw [H.out, HV.out.2]; rfl, rfl⟩
        · have hf2 : ¬ 1 + (k : Int) + (m : Int) + 3 ≤ 256 := by omega
          have H := hid hf
          clear hf
          go_wp2
          go_round
          case rel => exact ⟨2, by omega, by go_num, hid ⟨fun _ => HJ.out.1 (by omega), fun _ => H.out⟩⟩
          case measure => simp [intOf]
      · have hf2 : 1 + (k : Int) + (m : Int) + 3 ≤ 1024 := by omega
        have H := hid (show clV (m : Int) = 1024 by have := HC.out; have := HJ.out; rw [HV.out.1]; omega)
        go_wp2
        go_ret2
        exact ⟨by rw [H.out, HV.out.2]; rfl, rfl⟩
  · have H := hid (cl_not hn)
    by_cases h0 : n < 0
    · clear hn
      go_enter Tryd.func10, Tryd.ntmps10
      go_wp2
      go_ret2
      exact ⟨by rw [H.out.1, H.out.2]; rfl, rfl⟩
    · have h1 : 1000 < n := by omega
      clear hn
      go_enter Tryd.func10, Tryd.ntmps10
      go_wp2
      go_ret2
      exact ⟨by rw [H.out.1, H.out.2]; rfl, rfl⟩
end Go.Proofs.YthnjonabofabkaaDoor
