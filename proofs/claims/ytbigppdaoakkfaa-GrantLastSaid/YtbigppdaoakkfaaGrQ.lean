/-
  The plain mathematics of several grants to a policy: it stays right, the errors, how many came, whose grant came last.
-/
import Derived.Test.YtbigppdaoakkfaaGrD
import Derived.Test.YtbigppdaoakkfaaPoP
namespace Go.Proofs.Ytbigppdaoakkfaa
open Go.RowKit
set_option linter.unusedVariables false
set_option linter.unusedSimpArgs false

theorem okU_all {us : List Cl} : ∀ {n : Nat}, okU us n = true → ∀ j, j < n → clearB (us.getD j zC) = true
  | 0, _, j, hj => by omega
  | n + 1, h, j, hj => by
    rw [okU, Bool.and_eq_true] at h
    by_cases e : j = n
    · subst e; exact h.2
    · exact okU_all h.1 j (by omega)
theorem okU_mk {us : List Cl} : ∀ {n : Nat}, (∀ j, j < n → clearB (us.getD j zC) = true) → okU us n = true
  | 0, _ => rfl
  | n + 1, h => by rw [okU, Bool.and_eq_true]; exact ⟨okU_mk fun j hj => h j (by omega), h n (by omega)⟩
theorem stE_zero {us : List Cl} {g : Int} {x : Gr} (h : stE us g x = 0) : mayG x = true ∧ 0 ≤ x.u ∧ x.u < us.length ∧ g ≠ 0 := by
  unfold stE at h
  split at h
  · rename_i hm
    split at h
    · cases h
    · split at h
      · cases h
      · exact ⟨hm, (mayG_u hm).1, by omega, by assumption⟩
  · cases h
theorem mayG_cl {x : Gr} (h : mayG x = true) : clearB x.cl = true := by
  rw [mayG, Bool.and_eq_true] at h; exact h.2
/-- A user's clearance behind one grant. -/
theorem stU_at (us : List Cl) (g : Int) (x : Gr) (k : Nat) (hk : k < us.length) : (stU us g x).getD k zC = if stE us g x = 0 ∧ x.u = (k : Int) then x.cl else us.getD k zC := by
  unfold stU
  by_cases h : stE us g x = 0
  · rw [if_pos h]
    have hz := stE_zero h
    by_cases e : x.u = (k : Int)
    · rw [if_pos ⟨h, e⟩, e, Int.toNat_natCast, List.getD_eq_getElem?_getD, List.getElem?_set_self hk]
      rfl
    · rw [if_neg (fun hh => e hh.2), List.getD_eq_getElem?_getD, List.getElem?_set_ne (by omega), ← List.getD_eq_getElem?_getD]
  · rw [if_neg h, if_neg (fun hh => h hh.1)]
theorem rn_ok (us : List Cl) (g : Int) (l : List Gr) (h : okU us us.length = true) : ∀ j, okU (rn us g l j).us us.length = true
  | 0 => h
  | j + 1 => by
    have ih := rn_ok us g l h j
    have hl := (rn_length us g l j).1
    refine okU_mk fun k hk => ?_
    rw [rn]
    show clearB ((stU (rn us g l j).us (rn us g l j).g (l.getD j zG)).getD k zC) = true
    rw [stU_at _ _ _ k (by omega)]
    split
    · rename_i hz
      exact mayG_cl (stE_zero hz.1).1
    · exact okU_all ih k hk
theorem rn_right {us : List Cl} {qs : List Qt} {g : Int} (l : List Gr) (h : rightB us qs g = true) (j : Nat) : rightB (rn us g l j).us qs (rn us g l j).g = true := by
  have h0 := right_lens h
  have hg := rn_g us g l h0.2.2.1 j
  have hl := (rn_length us g l j).1
  simp only [rightB, usersB, inR, Bool.and_eq_true, decide_eq_true_eq] at h ⊢
  obtain ⟨⟨⟨⟨⟨h1, h2⟩, h3⟩, h4⟩, h5⟩, h6⟩ := h
  refine ⟨⟨⟨⟨⟨by omega, ?_⟩, h3⟩, by omega⟩, by omega⟩, h6⟩
  rw [hl]
  exact rn_ok us g l h2 j
/-- The error of each grant. -/
theorem rn_es (us : List Cl) (g : Int) (l : List Gr) : ∀ k j, j < k → (rn us g l k).es[j]? = some (stE (rn us g l j).us (rn us g l j).g (l.getD j zG))
  | 0, j, hj => by omega
  | k + 1, j, hj => by
    have hl := (rn_length us g l k).2
    rw [rn]
    show ((rn us g l k).es ++ [_])[j]? = _
    by_cases e : j = k
    · subst e
      rw [List.getElem?_append_right (by omega), hl, Nat.sub_self]
      rfl
    · rw [List.getElem?_append_left (by omega)]
      exact rn_es us g l k j (by omega)
theorem rn_came (us : List Cl) (g : Int) (l : List Gr) (j : Nat) : (rn us g l (j + 1)).g = if stE (rn us g l j).us (rn us g l j).g (l.getD j zG) = 0 then (rn us g l j).g - 1 else (rn us g l j).g := by
  rw [rn]; rfl
theorem rn_last (us : List Cl) (g : Int) (l : List Gr) (k : Nat) (hk : k < us.length) (j : Nat) : (rn us g l (j + 1)).us.getD k zC = if stE (rn us g l j).us (rn us g l j).g (l.getD j zG) = 0 ∧ (l.getD j zG).u = (k : Int) then (l.getD j zG).cl else (rn us g l j).us.getD k zC := by
  rw [rn]
  exact stU_at _ _ _ k (by rw [(rn_length us g l j).1]; exact hk)
theorem stE_nine {us : List Cl} {g : Int} {x : Gr} (h : stE us g x = 9) : g = 0 := by
  unfold stE at h
  split at h
  · split at h
    · cases h
    · split at h
      · assumption
      · cases h
  · cases h

/-- The box that a clearance is kept in. -/
structure Wb (w : World) (T : Nat) (x0 x1 : Int) (x2 : Bool) : Prop where
  c0 : w.cell? ⟨T, 0, none⟩ = some (.int .u8 x0)
  c1 : w.cell? ⟨T, 1, none⟩ = some (.int .u32 x1)
  c2 : w.cell? ⟨T, 2, none⟩ = some (.bool x2)
  f0 : w.frozen? ⟨T, 0, none⟩ = false
  f1 : w.frozen? ⟨T, 1, none⟩ = false
  f2 : w.frozen? ⟨T, 2, none⟩ = false
theorem Wb.lay {w : World} {T : Nat} {x0 x1 : Int} {x2 : Bool} (h : Wb w T x0 x1 x2) (y0 y1 : Int) (y2 : Bool) : Wb (((w.setCell ⟨T, 0, none⟩ (.int .u8 y0)).setCell ⟨T, 1, none⟩ (.int .u32 y1)).setCell ⟨T, 2, none⟩ (.bool y2)) T y0 y1 y2 := by
  obtain ⟨c0, c1, c2, f0, f1, f2⟩ := h
  exact ⟨by simp [go_sem, c0, c1, c2], by simp [go_sem, c0, c1, c2], by simp [go_sem, c0, c1, c2], by simp [go_sem, f0, f1, f2], by simp [go_sem, f0, f1, f2], by simp [go_sem, f0, f1, f2]⟩
end Go.Proofs.Ytbigppdaoakkfaa
