/-
  The contracts of May.
-/
import Derived.Test.YtbigppdaoakkfaaPoE
namespace Go.Proofs.Ytbigppdaoakkfaa
open Go.RowKit
set_option linter.unusedVariables false
set_option linter.unusedSimpArgs false

/-- May a user open at a label? -/
def opensB (us : List Cl) (u l c : Int) : Bool := decide (0 ≤ u ∧ u < (us.length : Int)) && ((us.getD u.toNat zC).ok && leqB l c (us.getD u.toNat zC).l (us.getD u.toNat zC).c)
def askB (us : List Cl) (qs : List Qt) (g l : Int) : Bool := rightB us qs g && mayL l

theorem opens_out {us : List Cl} {u l c : Int} (h : u < 0 ∨ (us.length : Int) ≤ u) : opensB us u l c = false := by
  rw [opensB, decide_eq_false (by omega), Bool.false_and]
theorem opens_at {us : List Cl} {l c : Int} (j : Nat) (h : j < us.length) : opensB us j l c = (us[j].ok && leqB l c us[j].l us[j].c) := by
  rw [opensB, decide_eq_true (by omega), Bool.true_and, Int.toNat_natCast, getD_at us zC j h]
theorem gather2b (a b q : Bool) (h : Hid ((a && b) = q)) (w : World) :
    Calls Try.prog 37 #[.slice (some ⟨w.heap.size, 0, none⟩) 2 2] (w.alloc (.cells #[.int .i64 (er a), .int .i64 (er b)] 26)) fun e w' => e = .returned (.int .i64 (er q)) ∧ w.alloc (.cells #[.int .i64 (er a), .int .i64 (er b)] 26) = w' := by
  rw [← h.out, ← gath2]; exact gather2 _ _ w

set_option maxRecDepth 100000 in
set_option maxHeartbeats 1600000 in
theorem may_of (v : Bool) (k : Int) (A : Option Addr) (n c : Nat) (B : Option Addr) (m d : Nat) (g : Int) (us : List Cl) (qs : List Qt) (u l0 l1 : Int) (hz : Hid ((askB us qs g l0 && opensB us u l0 l1) = v ∧ er (askB us qs g l0) = k)) (w : World) (hp : Pol w A n c B m d g us qs) :
    Calls Try.prog 32 #[.agg #[.slice A n c, .slice B m d, .int .i64 g], .int .i64 u, .agg #[.int .u8 l0, .int .u32 l1]] w fun e w' => e = .returned (.tuple #[.bool v, .int .i64 k]) ∧ Below w.heap.size w w' := by
  have HP := hid hp
  generalize hq : rightB us qs g = q
  have HQ := hid hq
  generalize ha : askB us qs g l0 = a
  have HA := hid (show (q && mayL l0) = a by rw [← ha, ← hq]; rfl)
  have hx := hz.out
  rw [ha] at hx
  have HX := hid hx
  clear hp hq hz ha hx
  go_enter Try.func32, Try.ntmps32
  go_wp2_with fail
  generalize hW : (w.alloc _).alloc _ = W
  have hbW : Below w.heap.size w W := by subst hW; go_grown
  (have s0 : W.cell? ⟨w.heap.size, 0, none⟩ = some (.slice A n c) := ((by subst hW; simp [go_sem])); have s1 : W.cell? ⟨w.heap.size, 1, none⟩ = some (.slice B m d) := ((by subst hW; simp [go_sem])); have s2 : W.cell? ⟨w.heap.size, 2, none⟩ = some (.int .i64 g) := ((by subst hW; simp [go_sem])))
  (have t0 : W.cell? ⟨w.heap.size + 1, 0, none⟩ = some (.int .u8 l0) := ((by subst hW; simp [go_sem])); have t1 : W.cell? ⟨w.heap.size + 1, 1, none⟩ = some (.int .u32 l1) := ((by subst hW; simp [go_sem])))
  clear hW
  (have q0 := fun w' (h : Below W.heap.size W w') => keep h s0; have q1 := fun w' (h : Below W.heap.size W w') => keep h s1; have q2 := fun w' (h : Below W.heap.size W w') => keep h s2)
  (have r0 := fun w' (h : Below W.heap.size W w') => keep h t0; have r1 := fun w' (h : Below W.heap.size W w') => keep h t1)
  have S0 : Below W.heap.size W W.drew := (Below.refl _ _).drew
  have HPW := hid (HP.out.keep hbW)
  go_region_held (fun w' => Below W.heap.size W w') (with_reducible (first | assumption | exact Below.alloc (by assumption) (Below.size (by assumption)) _))
    (first
      | (go_at_call 25; refine (check_of q A n c B m d g us qs HQ _ (HPW.out.keep (by assumption))).mono ?_; rintro e w2 ⟨rfl, b2⟩; have c2 := below_in (w := W) (by assumption) b2)
      | (go_at_call 47; refine (check_any _ _ _).mono ?_; rintro e w3 ⟨rfl, b3⟩; have c3 := below_in (w := W) (by assumption) b3)
      | (go_at_call 37; refine (gather2b _ _ _ HA _).mono ?_; rintro e w4 ⟨rfl, rfl⟩))
  generalize hW4 : w3.alloc _ = W4 at *
  have hB : Below W.heap.size W W4 := by assumption
  have HPB := hid (HPW.out.keep hB)
  replace s0 := q0 _ hB
  replace s1 := q1 _ hB
  replace s2 := q2 _ hB
  replace t0 := r0 _ hB
  replace t1 := r1 _ hB
  replace hB := below_in hbW hB
  clear hW4 b2 b3 c2 c3 S0 q0 q1 q2 r0 r1 hbW HPW
  cases a
  · have e8 : er false = 8 := rfl
    have HV : Hid (v = false ∧ k = 8) := hid ⟨by rw [← HX.out.1]; rfl, by rw [← HX.out.2]; rfl⟩
    obtain ⟨rfl, rfl⟩ := HV.out
    rw [e8]
    go_wp2
    go_ret2
    exact ⟨rfl, hB⟩
  · have e0 : er true = 0 := rfl
    have HV : Hid (opensB us u l0 l1 = v ∧ k = 0) := hid ⟨by rw [← HX.out.1]; rfl, by rw [← HX.out.2]; rfl⟩
    obtain ⟨hv, rfl⟩ := HV.out
    rw [e0]
    clear HX HV
    have hn := HPB.out.hn
    by_cases hu0 : u < 0
    · have d1 : decide (u < 0) = true := decide_eq_true hu0
      have HV := hid (show v = false by rw [← hv]; exact opens_out (.inl hu0))
      obtain rfl := HV.out
      clear hv hn hu0
      go_wp2
      go_ret2
      exact ⟨rfl, hB⟩
    · have d1 : decide (u < 0) = false := decide_eq_false hu0
      by_cases hun : (n : Int) ≤ u
      · have d2 : decide ((n : Int) ≤ u) = true := decide_eq_true hun
        have HV := hid (show v = false by rw [← hv]; exact opens_out (.inr (by rw [hn]; exact hun)))
        obtain rfl := HV.out
        clear hv hn hu0 hun
        go_wp2
        go_ret2
        exact ⟨rfl, hB⟩
      · have d2 : decide ((n : Int) ≤ u) = false := decide_eq_false hun
        obtain ⟨j, rfl⟩ : ∃ j : Nat, u = (j : Int) := ⟨u.toNat, by omega⟩
        have hjn : (j : Int) < (n : Int) := by omega
        rw [opens_at j (by omega)] at hv
        have hr := HPB.out.hu
        have hc2 : (c : Int) ≤ 9223372036854775807 := by have := hr.cap; omega
        have hc1 : (n : Int) ≤ c := by have := hr.len; omega
        obtain ⟨b, o, rfl, hcell⟩ := hr.at_ (by omega)
        obtain ⟨k0, k1, k2, ht⟩ := hcell j (by omega)
        generalize us[j]'(by omega) = x at k0 k1 k2 ht hv
        obtain ⟨x0, x1, x2⟩ := x
        have HV := hid hv
        clear hv hr hcell hn hu0 hun ht
        cases x2
        · have HW := hid (show v = false by rw [← HV.out]; rfl)
          obtain rfl := HW.out
          go_wp2
          go_ret2
          exact ⟨rfl, hB.alloc hB.size _⟩
        · have HW := hid (show leqB l0 l1 x0 x1 = v by rw [← HV.out]; rfl)
          (replace t0 := fun o => keepa t0 o; replace t1 := fun o => keepa t1 o)
          go_wp2_with fail
          go_call leq_of v l0 l1 x0 x1 HW.out _ as e w5 ⟨rfl, b5⟩
          go_wp2
          go_ret2
          exact ⟨rfl, below_in hB (past_alloc b5)⟩
end Go.Proofs.Ytbigppdaoakkfaa
