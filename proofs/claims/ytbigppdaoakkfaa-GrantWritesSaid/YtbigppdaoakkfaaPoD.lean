/-
  The contracts of sum (of blocks, of cells) and of blocks.
-/
import Derived.Test.YtbigppdaoakkfaaPoA
import Derived.Deep.RegionHeld
namespace Go.Proofs.Ytbigppdaoakkfaa
open Go.RowKit
set_option linter.unusedVariables false
set_option linter.unusedSimpArgs false

theorem blocksOf_any (l c o p k : Int) (w : World) :
    Calls Try.prog 57 #[.agg #[.int .u8 l, .int .u32 c, .int .i64 o, .int .i64 p, .int .i64 k]] w fun e w' => e = .returned (.int .i64 (wB ⟨l, c, o, p, k⟩)) ∧ Below w.heap.size w w' := by
  go_enter Try.func57, Try.ntmps57
  go_wp2
  go_ret
  exact ⟨by simp [wB, IntKind.wrap_i64], by go_grown⟩
theorem cellsOf_any (l c o p k : Int) (w : World) :
    Calls Try.prog 43 #[.agg #[.int .u8 l, .int .u32 c, .int .i64 o, .int .i64 p, .int .i64 k]] w fun e w' => e = .returned (.int .i64 (wC ⟨l, c, o, p, k⟩)) ∧ Below w.heap.size w w' := by
  go_enter Try.func43, Try.ntmps43
  go_wp2
  go_ret
  exact ⟨rfl, by go_grown⟩

set_option maxRecDepth 100000 in
set_option maxHeartbeats 800000 in
theorem sumB_any (A : Option Addr) (n c : Nat) (qs : List Qt) (hn : Hid (qs.length = n)) (w : World) (hr : RdQ w A c qs) :
    Calls Try.prog 42 #[.slice A n c, .func (.func 57) #[] #[]] w fun e w' => e = .returned (.int .i64 (smW wB qs n)) ∧ Below w.heap.size w w' := by
  have hc2 : (c : Int) ≤ 9223372036854775807 := by have := hr.cap; omega
  have hc1 : (n : Int) ≤ c := by have := hr.len; have := hn.out; omega
  have HR := hid hr
  clear hr
  go_enter Try.func42, Try.ntmps42
  go_wp2
  go_loopw [5, 7, 10] (fun e x i wr => ∃ (j : Nat) (z : Int), j ≤ n ∧ i = .int .i64 (j : Int) ∧ e = .int .i64 z ∧ Hid (z = smW wB qs j) ∧ Below w.heap.size w wr) (fun _ _ i _ => n - (intOf i).toNat)
  case atStart => exact ⟨0, 0, by omega, rfl, rfl, hid rfl, Below.refl _ _⟩
  case round =>
    obtain ⟨j, z, hj, rfl, rfl, hp, hb⟩ := hrel
    by_cases hlt : j < n
    · have hl := hn.out
      obtain ⟨b, o, rfl, hcell⟩ := (HR.out.keep hb).at_ (by omega)
      obtain ⟨k0, k1, k2, k3, k4, ht⟩ := hcell j (by omega)
      have hs : smW wB qs (j + 1) = wrap64 (smW wB qs j + wB (qs[j]'(by omega))) := by rw [smW, getD_at qs zQ j (by omega)]
      generalize qs[j]'(by omega) = x at k0 k1 k2 k3 k4 ht hs
      obtain ⟨x0, x1, x2, x3, x4⟩ := x
      have hlt2 : (j : Int) < (n : Int) := by omega
      generalize hv : wB ⟨x0, x1, x2, x3, x4⟩ = v at hs
      have HS := hid hs
      have HV := hid hv
      clear hs hcell hl ht hv
      go_wp2_with fail
      go_call blocksOf_any x0 x1 x2 x3 x4 _ as e w2 ⟨rfl, b2⟩
      rw [HV.out]
      replace hb := below_in hb (past_alloc b2)
      clear b2 k0 k1 k2 k3 k4
      go_wp2
      go_roundw
      case rel => exact ⟨j + 1, _, by omega, by go_num, rfl, hid (by rw [HS.out, hp.out]; try rfl), hb⟩
      case measure => simp [intOf]; omega
    · obtain rfl : j = n := by omega
      go_wp2
      go_ret
      exact ⟨ret_int (by rw [hp.out]), hb⟩

set_option maxRecDepth 100000 in
set_option maxHeartbeats 800000 in
theorem sumC_any (A : Option Addr) (n c : Nat) (qs : List Qt) (hn : Hid (qs.length = n)) (w : World) (hr : RdQ w A c qs) :
    Calls Try.prog 42 #[.slice A n c, .func (.func 43) #[] #[]] w fun e w' => e = .returned (.int .i64 (smW wC qs n)) ∧ Below w.heap.size w w' := by
  have hc2 : (c : Int) ≤ 9223372036854775807 := by have := hr.cap; omega
  have hc1 : (n : Int) ≤ c := by have := hr.len; have := hn.out; omega
  have HR := hid hr
  clear hr
  go_enter Try.func42, Try.ntmps42
  go_wp2
  go_loopw [5, 7, 10] (fun e x i wr => ∃ (j : Nat) (z : Int), j ≤ n ∧ i = .int .i64 (j : Int) ∧ e = .int .i64 z ∧ Hid (z = smW wC qs j) ∧ Below w.heap.size w wr) (fun _ _ i _ => n - (intOf i).toNat)
  case atStart => exact ⟨0, 0, by omega, rfl, rfl, hid rfl, Below.refl _ _⟩
  case round =>
    obtain ⟨j, z, hj, rfl, rfl, hp, hb⟩ := hrel
    by_cases hlt : j < n
    · have hl := hn.out
      obtain ⟨b, o, rfl, hcell⟩ := (HR.out.keep hb).at_ (by omega)
      obtain ⟨k0, k1, k2, k3, k4, ht⟩ := hcell j (by omega)
      have hs : smW wC qs (j + 1) = wrap64 (smW wC qs j + wC (qs[j]'(by omega))) := by rw [smW, getD_at qs zQ j (by omega)]
      generalize qs[j]'(by omega) = x at k0 k1 k2 k3 k4 ht hs
      obtain ⟨x0, x1, x2, x3, x4⟩ := x
      have hlt2 : (j : Int) < (n : Int) := by omega
      generalize hv : wC ⟨x0, x1, x2, x3, x4⟩ = v at hs
      have HS := hid hs
      have HV := hid hv
      clear hs hcell hl ht hv
      go_wp2_with fail
      go_call cellsOf_any x0 x1 x2 x3 x4 _ as e w2 ⟨rfl, b2⟩
      rw [HV.out]
      replace hb := below_in hb (past_alloc b2)
      clear b2 k0 k1 k2 k3 k4
      go_wp2
      go_roundw
      case rel => exact ⟨j + 1, _, by omega, by go_num, rfl, hid (by rw [HS.out, hp.out]; try rfl), hb⟩
      case measure => simp [intOf]; omega
    · obtain rfl : j = n := by omega
      go_wp2
      go_ret
      exact ⟨ret_int (by rw [hp.out]), hb⟩

theorem sumB_of (v : Int) (A : Option Addr) (n c : Nat) (qs : List Qt) (hn : Hid (qs.length = n)) (hv : Hid (smW wB qs n = v)) (w : World) (hr : RdQ w A c qs) :
    Calls Try.prog 42 #[.slice A n c, .func (.func 57) #[] #[]] w fun e w' => e = .returned (.int .i64 v) ∧ Below w.heap.size w w' := by rw [← hv.out]; exact sumB_any A n c qs hn w hr
set_option maxRecDepth 100000 in
set_option maxHeartbeats 800000 in
theorem blocks_any (A : Option Addr) (n c : Nat) (B : Option Addr) (m d : Nat) (g : Int) (us : List Cl) (qs : List Qt) (w : World) (hp : Pol w A n c B m d g us qs) :
    Calls Try.prog 41 #[.agg #[.slice A n c, .slice B m d, .int .i64 g]] w fun e w' => e = .returned (.int .i64 (wrap64 (g + smW wB qs m))) ∧ Below w.heap.size w w' := by
  have HP := hid hp
  clear hp
  generalize hv : smW wB qs m = v
  have HV := hid hv
  clear hv
  go_enter Try.func41, Try.ntmps41
  go_wp2_with fail
  generalize hW : w.alloc _ = W
  have hbW : Below w.heap.size w W := by subst hW; go_grown
  (have s0 : W.cell? ⟨w.heap.size, 0, none⟩ = some (.slice A n c) := ((by subst hW; simp [go_sem])); have s1 : W.cell? ⟨w.heap.size, 1, none⟩ = some (.slice B m d) := ((by subst hW; simp [go_sem])); have s2 : W.cell? ⟨w.heap.size, 2, none⟩ = some (.int .i64 g) := ((by subst hW; simp [go_sem])))
  clear hW
  (have q0 := Past.all s0; have q1 := Past.all s1; have q2 := Past.all s2)
  refine wp_region_past (by kernel_rfl) (by kernel_rfl) ?_
  repeat (go_big_quiet_step (exact quiet_below (sumB_of _ B m d qs (hid HP.out.hm) HV _ (HP.out.hq.keep (by first | assumption | exact below_in hbW (Subtype.property _))))))
  refine wpQuiet_nil ?_
  rintro w4 ⟨⟨_, hx⟩, rfl⟩
  go_wp2
  go_ret
  exact ⟨rfl, below_in hbW hx⟩
theorem blocks_of (v : Int) (A : Option Addr) (n c : Nat) (B : Option Addr) (m d : Nat) (g : Int) (us : List Cl) (qs : List Qt) (hv : Hid (smW wB qs m = v)) (w : World) (hp : Pol w A n c B m d g us qs) :
    Calls Try.prog 41 #[.agg #[.slice A n c, .slice B m d, .int .i64 g]] w fun e w' => e = .returned (.int .i64 (wrap64 (g + v))) ∧ Below w.heap.size w w' := by rw [← hv.out]; exact blocks_any A n c B m d g us qs w hp
theorem sumC_of (v : Int) (A : Option Addr) (n c : Nat) (qs : List Qt) (hn : Hid (qs.length = n)) (hv : Hid (smW wC qs n = v)) (w : World) (hr : RdQ w A c qs) :
    Calls Try.prog 42 #[.slice A n c, .func (.func 43) #[] #[]] w fun e w' => e = .returned (.int .i64 v) ∧ Below w.heap.size w w' := by rw [← hv.out]; exact sumC_any A n c qs hn w hr
end Go.Proofs.Ytbigppdaoakkfaa
