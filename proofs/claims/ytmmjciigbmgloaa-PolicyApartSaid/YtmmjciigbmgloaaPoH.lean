/-
  The contract of Quota.
-/
import Derived.Test.YtmmjciigbmgloaaPoF
import Derived.Test.YtmmjciigbmgloaaPoG
namespace Go.Proofs.Ytmmjciigbmgloaa
open Go.RowKit
set_option linter.unusedVariables false
set_option linter.unusedSimpArgs false

/-- A label's quota. -/
def ofQ (qs : List Qt) (a b : Int) : Qt := (fnd qs a b).getD ⟨a, b, 0, 0, 0⟩
def quotaV (us : List Cl) (qs : List Qt) (g a b : Int) : Qt := if askB us qs g a = true then ofQ qs a b else zQ

set_option maxRecDepth 100000 in
set_option maxHeartbeats 1600000 in
theorem quota_of (y0 y1 y2 y3 y4 k : Int) (A : Option Addr) (n c : Nat) (B : Option Addr) (m d : Nat) (g : Int) (us : List Cl) (qs : List Qt) (l0 l1 : Int) (hz : Hid (quotaV us qs g l0 l1 = ⟨y0, y1, y2, y3, y4⟩ ∧ er (askB us qs g l0) = k)) (w : World) (hp : Pol w A n c B m d g us qs) :
    Calls Try.prog 7 #[.agg #[.slice A n c, .slice B m d, .int .i64 g], .agg #[.int .u8 l0, .int .u32 l1]] w fun e w' => e = .returned (.tuple #[.agg #[.int .u8 y0, .int .u32 y1, .int .i64 y2, .int .i64 y3, .int .i64 y4], .int .i64 k]) ∧ Below w.heap.size w w' := by
  have HP := hid hp
  generalize hq : rightB us qs g = q
  have HQ := hid hq
  have hx := hz.out
  rw [quotaV] at hx
  generalize ha : askB us qs g l0 = a at hx
  have HA := hid (show (q && mayL l0) = a by rw [← ha, ← hq]; rfl)
  have HX := hid hx
  clear hp hq hz ha hx
  go_enter Try.func7, Try.ntmps7
  go_wp2_with fail
  generalize hW : ((w.alloc _).alloc _).alloc _ = W
  have hbW : Below w.heap.size w W := by subst hW; go_grown
  (have s0 : W.cell? ⟨w.heap.size, 0, none⟩ = some (.slice A n c) := ((by subst hW; simp [go_sem])); have s1 : W.cell? ⟨w.heap.size, 1, none⟩ = some (.slice B m d) := ((by subst hW; simp [go_sem])); have s2 : W.cell? ⟨w.heap.size, 2, none⟩ = some (.int .i64 g) := ((by subst hW; simp [go_sem])))
  (have t0 : W.cell? ⟨w.heap.size + 1, 0, none⟩ = some (.int .u8 l0) := ((by subst hW; simp [go_sem])); have t1 : W.cell? ⟨w.heap.size + 1, 1, none⟩ = some (.int .u32 l1) := ((by subst hW; simp [go_sem])))
  (have u0 : W.cell? ⟨w.heap.size + 1 + 1, 0, none⟩ = some (.int .u8 0) := ((by subst hW; simp [go_sem])); have u1 : W.cell? ⟨w.heap.size + 1 + 1, 1, none⟩ = some (.int .u32 0) := ((by subst hW; simp [go_sem])); have u2 : W.cell? ⟨w.heap.size + 1 + 1, 2, none⟩ = some (.int .i64 0) := ((by subst hW; simp [go_sem])); have u3 : W.cell? ⟨w.heap.size + 1 + 1, 3, none⟩ = some (.int .i64 0) := ((by subst hW; simp [go_sem])); have u4 : W.cell? ⟨w.heap.size + 1 + 1, 4, none⟩ = some (.int .i64 0) := ((by subst hW; simp [go_sem])))
  (have f0 : W.frozen? ⟨w.heap.size + 1 + 1, 0, none⟩ = false := ((by subst hW; simp [go_sem])); have f1 : W.frozen? ⟨w.heap.size + 1 + 1, 1, none⟩ = false := ((by subst hW; simp [go_sem])); have f2 : W.frozen? ⟨w.heap.size + 1 + 1, 2, none⟩ = false := ((by subst hW; simp [go_sem])); have f3 : W.frozen? ⟨w.heap.size + 1 + 1, 3, none⟩ = false := ((by subst hW; simp [go_sem])); have f4 : W.frozen? ⟨w.heap.size + 1 + 1, 4, none⟩ = false := ((by subst hW; simp [go_sem])))
  clear hW
  (have q0 := fun w' (h : Below W.heap.size W w') => keep h s0; have q1 := fun w' (h : Below W.heap.size W w') => keep h s1; have q2 := fun w' (h : Below W.heap.size W w') => keep h s2)
  (have r0 := fun w' (h : Below W.heap.size W w') => keep h t0; have r1 := fun w' (h : Below W.heap.size W w') => keep h t1)
  have S0 : Below W.heap.size W W.drew := (Below.refl _ _).drew
  have HPW := hid (HP.out.keep hbW)
  have HU := hid (show _ ∧ _ ∧ _ ∧ _ ∧ _ from ⟨u0, u1, u2, u3, u4⟩)
  have HF := hid (show _ ∧ _ ∧ _ ∧ _ ∧ _ from ⟨f0, f1, f2, f3, f4⟩)
  clear u0 u1 u2 u3 u4 f0 f1 f2 f3 f4
  go_region_held (fun w' => Below W.heap.size W w') (with_reducible (first | assumption | exact Below.alloc (by assumption) (Below.size (by assumption)) _))
    (first
      | (go_at_call 12; refine (check_of q A n c B m d g us qs HQ _ (HPW.out.keep (by assumption))).mono ?_; rintro e w2 ⟨rfl, b2⟩; have c2 := below_in (w := W) (by assumption) b2)
      | (go_at_call 26; refine (check_any _ _ _).mono ?_; rintro e w3 ⟨rfl, b3⟩; have c3 := below_in (w := W) (by assumption) b3)
      | (go_at_call 25; refine (gather2b _ _ _ HA _).mono ?_; rintro e w4 ⟨rfl, rfl⟩))
  generalize hW4 : w3.alloc _ = W4 at *
  have hB : Below W.heap.size W W4 := by assumption
  have HPB := hid (HPW.out.keep hB)
  replace s0 := q0 _ hB
  replace s1 := q1 _ hB
  replace s2 := q2 _ hB
  replace t0 := r0 _ hB
  replace t1 := r1 _ hB
  obtain ⟨u0, u1, u2, u3, u4⟩ := HU.out
  obtain ⟨f0, f1, f2, f3, f4⟩ := HF.out
  (replace f0 := keepz hB u0 f0; replace f1 := keepz hB u1 f1; replace f2 := keepz hB u2 f2; replace f3 := keepz hB u3 f3; replace f4 := keepz hB u4 f4)
  (replace u0 := keep hB u0; replace u1 := keep hB u1; replace u2 := keep hB u2; replace u3 := keep hB u3; replace u4 := keep hB u4)
  replace hB := below_in hbW hB
  clear hW4 b2 b3 c2 c3 S0 q0 q1 q2 r0 r1 hbW HPW HU HF
  cases a
  · have e8 : er false = 8 := rfl
    have HV : Hid (zQ = ⟨y0, y1, y2, y3, y4⟩ ∧ k = 8) := hid ⟨by rw [← HX.out.1]; rfl, by rw [← HX.out.2]; rfl⟩
    obtain ⟨hv, rfl⟩ := HV.out
    injection hv with v0 v1 v2 v3 v4
    subst v0 v1 v2 v3 v4
    rw [e8]
    go_wp2
    exact bodyPost_ret (v := .tuple #[.agg #[.int .u8 0, .int .u32 0, .int .i64 0, .int .i64 0, .int .i64 0], .int .i64 8]) (by simp [results, Try.results7, go_sem, u0, u1, u2, u3, u4]) rfl ⟨rfl, set5 hB (by omega) _ _ _ _ _⟩
  · have e0 : er true = 0 := rfl
    have HV : Hid (ofQ qs l0 l1 = ⟨y0, y1, y2, y3, y4⟩ ∧ k = 0) := hid ⟨by rw [← HX.out.1]; rfl, by rw [← HX.out.2]; rfl⟩
    obtain ⟨hv, rfl⟩ := HV.out
    rw [e0]
    clear HX HV
    cases hf : fnd qs l0 l1 with
    | none =>
      rw [ofQ, hf, Option.getD_none] at hv
      injection hv with v0 v1 v2 v3 v4
      subst v0 v1 v2 v3 v4
      have HN : Hid (Fnd qs l0 l1 false 0 0 0 0 0) := hid (.inr ⟨rfl, hf, rfl, rfl, rfl, rfl, rfl⟩)
      clear hf
      go_wp2_with fail
      refine (find_of false 0 0 0 0 0 B m d qs l0 l1 (hid HPB.out.hm) HN _ HPB.out.hq).mono ?_
      rintro e w5 ⟨rfl, b5⟩
      (replace f0 := keepz b5 u0 f0; replace f1 := keepz b5 u1 f1; replace f2 := keepz b5 u2 f2; replace f3 := keepz b5 u3 f3; replace f4 := keepz b5 u4 f4)
      (replace u0 := keep b5 u0; replace u1 := keep b5 u1; replace u2 := keep b5 u2; replace u3 := keep b5 u3; replace u4 := keep b5 u4)
      (replace t0 := keep b5 t0; replace t1 := keep b5 t1)
      replace hB := below_in hB b5
      clear b5 s0 s1 s2
      replace f0 := fun o => keepfa u0 f0 o
      replace f1 := fun o => keepfa u1 f1 o
      replace f2 := fun o => keepfa u2 f2 o
      replace f3 := fun o => keepfa u3 f3 o
      replace f4 := fun o => keepfa u4 f4 o
      (replace u0 := fun o => keepa u0 o; replace u1 := fun o => keepa u1 o; replace u2 := fun o => keepa u2 o; replace u3 := fun o => keepa u3 o; replace u4 := fun o => keepa u4 o)
      (replace t0 := fun o => keepa t0 o; replace t1 := fun o => keepa t1 o)
      go_wp2
      exact bodyPost_ret (v := .tuple #[.agg #[.int .u8 l0, .int .u32 l1, .int .i64 0, .int .i64 0, .int .i64 0], .int .i64 0]) (by simp [results, Try.results7, go_sem, u0, u1, u2, u3, u4]) rfl ⟨rfl, set5 (hB.alloc hB.size _) (by omega) _ _ _ _ _⟩
    | some y =>
      rw [ofQ, hf, Option.getD_some] at hv
      subst hv
      have HN : Hid (Fnd qs l0 l1 true y0 y1 y2 y3 y4) := hid (.inl ⟨rfl, hf⟩)
      clear hf
      go_wp2_with fail
      refine (find_of true y0 y1 y2 y3 y4 B m d qs l0 l1 (hid HPB.out.hm) HN _ HPB.out.hq).mono ?_
      rintro e w5 ⟨rfl, b5⟩
      (replace f0 := keepz b5 u0 f0; replace f1 := keepz b5 u1 f1; replace f2 := keepz b5 u2 f2; replace f3 := keepz b5 u3 f3; replace f4 := keepz b5 u4 f4)
      (replace u0 := keep b5 u0; replace u1 := keep b5 u1; replace u2 := keep b5 u2; replace u3 := keep b5 u3; replace u4 := keep b5 u4)
      replace hB := below_in hB b5
      clear b5 s0 s1 s2 t0 t1
      replace f0 := fun o => keepfa u0 f0 o
      replace f1 := fun o => keepfa u1 f1 o
      replace f2 := fun o => keepfa u2 f2 o
      replace f3 := fun o => keepfa u3 f3 o
      replace f4 := fun o => keepfa u4 f4 o
      (replace u0 := fun o => keepa u0 o; replace u1 := fun o => keepa u1 o; replace u2 := fun o => keepa u2 o; replace u3 := fun o => keepa u3 o; replace u4 := fun o => keepa u4 o)
      go_wp2
      exact bodyPost_ret (v := .tuple #[.agg #[.int .u8 y0, .int .u32 y1, .int .i64 y2, .int .i64 y3, .int .i64 y4], .int .i64 0]) (by simp [results, Try.results7, go_sem, u0, u1, u2, u3, u4]) rfl ⟨rfl, set5 (hB.alloc hB.size _) (by omega) _ _ _ _ _⟩
end Go.Proofs.Ytmmjciigbmgloaa
