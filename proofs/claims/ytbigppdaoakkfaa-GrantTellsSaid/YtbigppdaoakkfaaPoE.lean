/-
  The contracts of Check, Blocks, and the reference's Great.
-/
import Derived.Test.YtbigppdaoakkfaaPoC
import Derived.Test.YtbigppdaoakkfaaPoD
namespace Go.Proofs.Ytbigppdaoakkfaa
open Go.RowKit
set_option linter.unusedVariables false
set_option linter.unusedSimpArgs false

set_option maxRecDepth 100000 in
set_option maxHeartbeats 2000000 in
theorem check_of (q : Bool) (A : Option Addr) (n c : Nat) (B : Option Addr) (m d : Nat) (g : Int) (us : List Cl) (qs : List Qt) (hq : Hid (rightB us qs g = q)) (w : World) (hp : Pol w A n c B m d g us qs) :
    Calls Try.prog 25 #[.agg #[.slice A n c, .slice B m d, .int .i64 g]] w fun e w' => e = .returned (.int .i64 (er q)) ∧ Below w.heap.size w w' := by
  have HG := right_gath us qs g
  rw [hp.hm, hq.out] at HG
  generalize hv : smW wB qs m = v at HG
  generalize hu : smW wC qs m = u at HG
  have HG' := hid HG
  have HV := hid hv
  have HU := hid hu
  have HP := hid hp
  clear hp HG hv hu
  generalize hbu : usersB us = bu
  generalize hbq : quotasB qs = bq
  have HBU := hid hbu
  have HBQ := hid hbq
  clear hbu hbq
  go_enter Try.func25, Try.ntmps25
  go_wp2_with fail
  generalize hW : w.alloc _ = W
  have hbW : Below w.heap.size w W := by subst hW; go_grown
  (have s0 : W.cell? ⟨w.heap.size, 0, none⟩ = some (.slice A n c) := ((by subst hW; simp [go_sem])); have s1 : W.cell? ⟨w.heap.size, 1, none⟩ = some (.slice B m d) := ((by subst hW; simp [go_sem])); have s2 : W.cell? ⟨w.heap.size, 2, none⟩ = some (.int .i64 g) := ((by subst hW; simp [go_sem])))
  clear hW
  (have q0 := fun w' (h : Below W.heap.size W w') => keep h s0; have q1 := fun w' (h : Below W.heap.size W w') => keep h s1; have q2 := fun w' (h : Below W.heap.size W w') => keep h s2)
  have S0 : Below W.heap.size W W.drew := (Below.refl _ _).drew
  have HPW := hid (HP.out.keep hbW)
  go_region_held (fun w' => Below W.heap.size W w') (with_reducible (first | assumption | exact Below.alloc (by assumption) (Below.size (by assumption)) _))
    (first
      | (go_at_call 38; refine (users_of _ A n c us (hid HPW.out.hn) HBU _ (HPW.out.hu.keep (by assumption))).mono ?_; rintro e w2 ⟨rfl, b2⟩; have c2 := below_in (w := W) (by assumption) b2)
      | (go_at_call 39; refine (quotas_of _ B m d qs (hid HPW.out.hm) HBQ _ (HPW.out.hq.keep (by assumption))).mono ?_; rintro e w2 ⟨rfl, b2⟩; have c2 := below_in (w := W) (by assumption) b2)
      | (go_at_call 40; refine (count_any _ _ _).mono ?_; rintro e w2 ⟨rfl, rfl⟩)
      | (go_at_call 41; refine (blocks_of v A n c B m d g us qs HV _ (HPW.out.keep (by assumption))).mono ?_; rintro e w2 ⟨rfl, b2⟩; have c2 := below_in (w := W) (by assumption) b2)
      | (go_at_call 42; refine (sumC_of u B m d qs (hid HPW.out.hm) HU _ (HPW.out.hq.keep (by assumption))).mono ?_; rintro e w2 ⟨rfl, b2⟩; have c2 := below_in (w := W) (by assumption) b2)
      | (go_at_call 37; refine (gather5 _ _ _ _ _ _).mono ?_; rintro e w2 ⟨rfl, rfl⟩))
  have hb := below_in (w := w) hbW (by assumption)
  clear q0 q1 q2 s0 s1 s2 S0
  go_wp2
  go_ret
  exact ⟨ret_int (by rw [← HG'.out, HBU.out, HBQ.out]), hb⟩

end Go.Proofs.Ytbigppdaoakkfaa
