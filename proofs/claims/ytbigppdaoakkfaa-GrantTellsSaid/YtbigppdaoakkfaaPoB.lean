/-
  The contracts of checkUsers, checkQuota, checkQuotas.
-/
import Derived.Test.YtbigppdaoakkfaaPoA
import Derived.Deep.RegionHeld
namespace Go.Proofs.Ytbigppdaoakkfaa
open Go.RowKit
set_option linter.unusedVariables false
set_option linter.unusedSimpArgs false

set_option maxRecDepth 100000 in
set_option maxHeartbeats 800000 in
theorem users_of (q : Bool) (A : Option Addr) (n c : Nat) (us : List Cl) (hn : Hid (us.length = n)) (hq : Hid (usersB us = q)) (w : World) (hr : RdC w A c us) :
    Calls Try.prog 38 #[.slice A n c] w fun e w' => e = .returned (.int .i64 (er q)) ∧ Below w.heap.size w w' := by
  have hc2 : (c : Int) ≤ 9223372036854775807 := by have := hr.cap; omega
  have hc1 : (n : Int) ≤ c := by have := hr.len; have := hn.out; omega
  have HR := hid hr
  have H0 := hid (show inR (n : Int) 8 = (decide (us.length ≤ 8) && okU us 0) by rw [hn.out, inR, okU, Bool.and_true, decide_eq_decide]; omega)
  clear hr
  go_enter Try.func38, Try.ntmps38
  go_wp2_with fail
  refine (count_any _ _ _).mono ?_
  rintro e w1 ⟨rfl, rfl⟩
  go_wp2_with fail
  go_loopw [3, 5, 11] (fun e x i wr => ∃ (j : Nat) (p : Bool), j ≤ n ∧ i = .int .i64 (j : Int) ∧ e = .int .i64 (er p) ∧ Hid (p = (decide (us.length ≤ 8) && okU us j)) ∧ Below w.heap.size w wr) (fun _ _ i _ => n - (intOf i).toNat)
  case atStart => exact ⟨0, _, by omega, rfl, rfl, H0, Below.refl _ _⟩
  case round =>
    obtain ⟨j, p, hj, rfl, rfl, hp, hb⟩ := hrel
    by_cases hlt : j < n
    · have hl := hn.out
      obtain ⟨b, o, rfl, hcell⟩ := (HR.out.keep hb).at_ (by omega)
      obtain ⟨k0, k1, k2, ht⟩ := hcell j (by omega)
      have hs : okU us (j + 1) = (okU us j && clearB (us[j]'(by omega))) := by rw [okU, getD_at us zC j (by omega)]
      generalize us[j]'(by omega) = x at k0 k1 k2 ht hs
      obtain ⟨x0, x1, x2⟩ := x
      have hlt2 : (j : Int) < (n : Int) := by omega
      have HS := hid hs
      clear hs hcell hl ht
      go_wp2_with fail
      go_call clear_any x0 x1 x2 _ as e w2 ⟨rfl, b2⟩
      replace hb := below_in hb (past_alloc b2)
      clear b2 k0 k1 k2
      go_wp2_with fail
      refine (gather2 _ _ _).mono ?_
      rintro e w3 ⟨rfl, rfl⟩
      go_wp2
      go_roundw
      case rel => exact ⟨j + 1, _, by omega, by go_num, by rw [gath2], hid (by rw [hp.out, HS.out, Bool.and_assoc]), hb.alloc hb.size _⟩
      case measure => simp [intOf]; omega
    · obtain rfl : j = n := by omega
      go_wp2
      go_ret
      exact ⟨ret_int (by rw [hp.out, ← hq.out, usersB, hn.out]), hb⟩

set_option maxRecDepth 100000 in
set_option maxHeartbeats 800000 in
theorem quota_any (l c o p k : Int) (w : World) :
    Calls Try.prog 55 #[.agg #[.int .u8 l, .int .u32 c, .int .i64 o, .int .i64 p, .int .i64 k]] w fun e w' => e = .returned (.int .i64 (er (quotaB ⟨l, c, o, p, k⟩))) ∧ Below w.heap.size w w' := by
  have HG := hid (show gath [er (mayL l), er (inR o 64), er (inR p 256), er (inR k 4096)] = er (quotaB ⟨l, c, o, p, k⟩) by rw [gath4]; rfl)
  go_enter Try.func55, Try.ntmps55
  go_wp2_with fail
  generalize hW : w.alloc _ = W
  have hbW : Below w.heap.size w W := by subst hW; go_grown
  (have s0 : W.cell? ⟨w.heap.size, 0, none⟩ = some (.int .u8 l) := ((by subst hW; simp [go_sem])); have s1 : W.cell? ⟨w.heap.size, 1, none⟩ = some (.int .u32 c) := ((by subst hW; simp [go_sem])); have s2 : W.cell? ⟨w.heap.size, 2, none⟩ = some (.int .i64 o) := ((by subst hW; simp [go_sem])); have s3 : W.cell? ⟨w.heap.size, 3, none⟩ = some (.int .i64 p) := ((by subst hW; simp [go_sem])); have s4 : W.cell? ⟨w.heap.size, 4, none⟩ = some (.int .i64 k) := ((by subst hW; simp [go_sem])))
  clear hW
  (have q0 := fun w' (h : Below W.heap.size W w') => keep h s0; have q1 := fun w' (h : Below W.heap.size W w') => keep h s1; have q2 := fun w' (h : Below W.heap.size W w') => keep h s2; have q3 := fun w' (h : Below W.heap.size W w') => keep h s3; have q4 := fun w' (h : Below W.heap.size W w') => keep h s4)
  have S0 : Below W.heap.size W W.drew := (Below.refl _ _).drew
  go_region_held (fun w' => Below W.heap.size W w') (with_reducible (first | assumption | exact Below.alloc (by assumption) (Below.size (by assumption)) _))
    (first
      | (go_at_call 47; refine (check_any _ _ _).mono ?_; rintro e w2 ⟨rfl, b2⟩; have c2 := below_in (w := W) (by assumption) b2)
      | (go_at_call 40; refine (count_any _ _ _).mono ?_; rintro e w2 ⟨rfl, rfl⟩)
      | (go_at_call 37; refine (gather4 _ _ _ _ _).mono ?_; rintro e w2 ⟨rfl, rfl⟩))
  have hb := below_in (w := w) hbW (by assumption)
  clear q0 q1 q2 q3 q4 s0 s1 s2 s3 s4 S0 c2 b2
  go_wp2
  go_ret
  exact ⟨ret_int HG.out, hb⟩
end Go.Proofs.Ytbigppdaoakkfaa
