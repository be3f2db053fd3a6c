/-
  The mathematics of PolicyApart: quotas with one more, or with another one in the place of one of the same label.
-/
import Derived.Test.YtmmjciigbmgloaaPoH
namespace Go.Proofs.Ytmmjciigbmgloaa
open Go.RowKit
set_option linter.unusedVariables false
set_option linter.unusedSimpArgs false

/-- The first j quotas with x laid in, and whether x is in. -/
def bld (qs : List Qt) (x : Qt) : Nat → List Qt × Bool
  | 0 => ([], false)
  | j + 1 =>
    (((bld qs x j).1 ++ (if (!(bld qs x j).2 && aheadB x.l x.c (qs.getD j zQ).l (qs.getD j zQ).c) = true then [x] else [])) ++ (if sameL (qs.getD j zQ).l (qs.getD j zQ).c x.l x.c = true then [] else [qs.getD j zQ]),
      (bld qs x j).2 || (!(bld qs x j).2 && aheadB x.l x.c (qs.getD j zQ).l (qs.getD j zQ).c))
def laid (qs : List Qt) (x : Qt) : List Qt := if (bld qs x qs.length).2 = true then (bld qs x qs.length).1 else (bld qs x qs.length).1 ++ [x]

theorem fnd_append (l m : List Qt) (a b : Int) : fnd (l ++ m) a b = (fnd l a b).or (fnd m a b) := by
  induction l with
  | nil => rfl
  | cons x l ih =>
    rw [List.cons_append, fnd, fnd]
    split
    · rfl
    · exact ih
theorem fnd_one (x : Qt) (a b : Int) : fnd [x] a b = if sameL x.l x.c a b = true then some x else none := rfl
theorem sameL_eq {a b c d : Int} (h : sameL a b c d = true) : a = c ∧ b = d := by
  simpa [sameL] using h
theorem sameL_refl (a b : Int) : sameL a b a b = true := by simp [sameL]
theorem sameL_symm (a b c d : Int) : sameL a b c d = sameL c d a b := by
  rw [Bool.eq_iff_iff]; simp [sameL]; omega

theorem bld_other {qs : List Qt} {x : Qt} {a b : Int} (h : sameL x.l x.c a b = false) : ∀ j, j ≤ qs.length → fnd (bld qs x j).1 a b = fnd (qs.take j) a b
  | 0, _ => by simp [bld]
  | j + 1, hj => by
    rw [bld, List.take_succ_eq_append_getElem (by omega), fnd_append, fnd_append, fnd_append, bld_other h j (by omega), getD_at qs zQ j (by omega)]
    have e1 : fnd (if (!(bld qs x j).2 && aheadB x.l x.c (qs[j]'(by omega)).l (qs[j]'(by omega)).c) = true then [x] else []) a b = none := by
      split
      · rw [fnd_one, h]; rfl
      · rfl
    rw [e1, Option.or_none]
    congr 1
    split
    · rename_i hs
      obtain ⟨g1, g2⟩ := sameL_eq hs
      rw [fnd_one, g1, g2, h]; rfl
    · rfl
theorem bld_self {qs : List Qt} {x : Qt} : ∀ j, j ≤ qs.length → fnd (bld qs x j).1 x.l x.c = if (bld qs x j).2 = true then some x else none
  | 0, _ => by simp [bld, fnd]
  | j + 1, hj => by
    have ih := bld_self (qs := qs) (x := x) j (by omega)
    rw [bld, fnd_append, fnd_append, ih]
    have e2 : fnd (if sameL (qs.getD j zQ).l (qs.getD j zQ).c x.l x.c = true then [] else [qs.getD j zQ]) x.l x.c = none := by
      split
      · rfl
      · rename_i hs
        rw [fnd_one, if_neg hs]
    rw [e2, Option.or_none]
    cases (bld qs x j).2
    · simp only [Bool.not_false, Bool.true_and, Bool.false_or]
      cases aheadB x.l x.c (qs.getD j zQ).l (qs.getD j zQ).c
      · rfl
      · simp [fnd_one, sameL_refl]
    · simp
theorem laid_self (qs : List Qt) (x : Qt) : fnd (laid qs x) x.l x.c = some x := by
  have h := bld_self (qs := qs) (x := x) qs.length (Nat.le_refl _)
  unfold laid
  split
  · rename_i hp
    rw [h, if_pos hp]
  · rename_i hp
    rw [fnd_append, h, if_neg hp, fnd_one, sameL_refl]; rfl
theorem laid_other (qs : List Qt) (x : Qt) {a b : Int} (hd : sameL x.l x.c a b = false) : fnd (laid qs x) a b = fnd qs a b := by
  have h := bld_other (qs := qs) hd qs.length (Nat.le_refl _)
  rw [List.take_of_length_le (Nat.le_refl _)] at h
  unfold laid
  split
  · exact h
  · rw [fnd_append, h, fnd_one, hd]; simp
theorem bld_length (qs : List Qt) (x : Qt) : ∀ j, (bld qs x j).1.length ≤ 2 * j
  | 0 => by simp [bld]
  | j + 1 => by
    have ih := bld_length qs x j
    rw [bld]
    simp only [List.length_append]
    split <;> split <;> simp <;> omega
end Go.Proofs.Ytmmjciigbmgloaa
