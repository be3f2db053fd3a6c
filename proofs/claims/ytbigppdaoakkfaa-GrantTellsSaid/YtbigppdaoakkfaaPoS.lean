/-
  The contracts of slices.Equal (of clearances, of quotas) and of Same.
-/
import Derived.Test.YtbigppdaoakkfaaPoA
namespace Go.Proofs.Ytbigppdaoakkfaa
open Go.RowKit
set_option linter.unusedVariables false
set_option linter.unusedSimpArgs false

def sameCl (x y : Cl) : Bool := sameC x.l x.c x.ok y.l y.c y.ok
def sameQt (x y : Qt) : Bool := sameQ x.l x.c x.o x.p x.k y.l y.c y.o y.p y.k
/-- The first j are the same. -/
def allS {α : Type} (f : α → α → Bool) (z : α) (us vs : List α) : Nat → Bool
  | 0 => true
  | j + 1 => allS f z us vs j && f (us.getD j z) (vs.getD j z)
theorem allS_false {α : Type} {f : α → α → Bool} {z : α} {us vs : List α} {j : Nat} (h : f (us.getD j z) (vs.getD j z) = false) : ∀ n, j < n → allS f z us vs n = false
  | n + 1, hn => by
    rw [allS]
    by_cases e : j = n
    · subst e; rw [h, Bool.and_false]
    · rw [allS_false h n (by omega), Bool.false_and]
def sameUs (us vs : List Cl) : Bool := us.length == vs.length && allS sameCl zC us vs us.length
def sameQs (us vs : List Qt) : Bool := us.length == vs.length && allS sameQt zQ us vs us.length
def sameP (us : List Cl) (qs : List Qt) (g : Int) (vs : List Cl) (rs : List Qt) (h : Int) : Bool := g == h && sameUs us vs && sameQs qs rs

end Go.Proofs.Ytbigppdaoakkfaa
