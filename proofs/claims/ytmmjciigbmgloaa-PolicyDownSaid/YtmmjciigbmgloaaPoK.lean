/-
  What the statements of layer 6 share: of, two, may, alive.
-/
import Derived.Test.YtmmjciigbmgloaaPoH
import Derived.Test.YtmmjciigbmgloaaPoT
import Derived.Test.YtmmjciigbmgloaaLaw
import Derived.BigQuiet
import Derived.Deep.RegionHeld
namespace Go.Proofs.Ytmmjciigbmgloaa
open Go.ChangeShapes Go.WideShapes Go.ChangeAt Go.RowKit Go.Joins
set_option linter.unusedVariables false
set_option linter.unusedSimpArgs false

theorem of_any (l c : Int) (w : World) :
    Calls Try.prog 9 #[.int .u8 l, .int .u32 c] w fun e w' => e = .returned (.agg #[.int .u8 l, .int .u32 c]) ∧ Below w.heap.size w w' := by
  go_enter Try.func9, Try.ntmps9
  go_wp2
  go_returns
  exact ⟨rfl, by go_grown⟩

theorem OwnC.set {w : World} {base : Nat} {A : Option Addr} {c : Nat} {l : List Cl} (h : OwnC w base A c l) {a : Addr} (ha : a.block < base) (u : Value) : OwnC (w.setCell a u) base A c l := ⟨h.1.set ha u, h.2⟩
theorem OwnQ.set {w : World} {base : Nat} {A : Option Addr} {c : Nat} {l : List Qt} (h : OwnQ w base A c l) {a : Addr} (ha : a.block < base) (u : Value) : OwnQ (w.setCell a u) base A c l := ⟨h.1.set ha u, h.2⟩
theorem OwnC.mono {w : World} {base base' : Nat} {A : Option Addr} {c : Nat} {l : List Cl} (h : OwnC w base A c l) (hb : base' ≤ base) : OwnC w base' A c l := ⟨h.1.mono hb, h.2⟩
theorem OwnQ.mono {w : World} {base base' : Nat} {A : Option Addr} {c : Nat} {l : List Qt} (h : OwnQ w base A c l) (hb : base' ≤ base) : OwnQ w base' A c l := ⟨h.1.mono hb, h.2⟩
def us2 : List Cl := [⟨2, 3, true⟩, ⟨0, 0, false⟩]
def qs2 : List Qt := [⟨1, 1, 2, 3, 9⟩]
/-- The chapter's policy, in blocks of its own. -/
def Two (w w' : World) (e : Ending) : Prop := ∃ g h, w.heap.size ≤ g ∧ w.heap.size ≤ h ∧ g ≠ h ∧ e = .returned (.agg #[.slice (some ⟨g, 0, none⟩) 2 2, .slice (some ⟨h, 0, none⟩) 1 1, .int .i64 4]) ∧ OwnC w' w.heap.size (some ⟨g, 0, none⟩) 2 us2 ∧ OwnQ w' w.heap.size (some ⟨h, 0, none⟩) 1 qs2 ∧ Below w.heap.size w w'
theorem us2_typed : ∀ x ∈ us2, x.typed := fun x hx => by
  simp only [us2, List.mem_cons, List.not_mem_nil, or_false] at hx
  rcases hx with rfl | rfl <;> exact ⟨by decide, by decide, by decide, by decide⟩
theorem qs2_typed : ∀ x ∈ qs2, x.typed := fun x hx => by
  simp only [qs2, List.mem_cons, List.not_mem_nil, or_false] at hx
  subst hx
  exact ⟨⟨by decide, by decide, by decide, by decide⟩, ⟨by decide, by decide⟩, ⟨by decide, by decide⟩, ⟨by decide, by decide⟩⟩

set_option maxRecDepth 100000 in
set_option maxHeartbeats 800000 in
theorem two_any (w : World) :
    Calls Try.prog 8 #[] w fun e w' => Two w w' e := by
  go_enter Try.func8, Try.ntmps8
  go_wp2_with fail
  go_call of_any 2 3 _ as e w1 ⟨rfl, b1⟩
  (have t0 : w1.cell? ⟨w.heap.size, 0, none⟩ = some (.slice none 0 0) := (keep b1 (by simp [go_sem])); have t1 : w1.cell? ⟨w.heap.size, 1, none⟩ = some (.slice none 0 0) := (keep b1 (by simp [go_sem])); have t2 : w1.cell? ⟨w.heap.size, 2, none⟩ = some (.int .i64 0) := (keep b1 (by simp [go_sem])))
  (have f0 : w1.frozen? ⟨w.heap.size, 0, none⟩ = false := (keepz b1 (v := .slice none 0 0) (by simp [go_sem]) (by simp [go_sem])); have f1 : w1.frozen? ⟨w.heap.size, 1, none⟩ = false := (keepz b1 (v := .slice none 0 0) (by simp [go_sem]) (by simp [go_sem])); have f2 : w1.frozen? ⟨w.heap.size, 2, none⟩ = false := (keepz b1 (v := .int .i64 0) (by simp [go_sem]) (by simp [go_sem])))
  have hz1 : w.heap.size + 1 ≤ w1.heap.size := by have := b1.size; simpa using this
  replace b1 := past_alloc b1
  have hc := lit_c w1 us2 (by decide) us2_typed
  go_wp2_with fail
  go_call of_any 1 1 _ as e w2 ⟨rfl, b2⟩
  replace hc := hc.keep b2
  have hz2 : w1.heap.size + 1 ≤ w2.heap.size := by have := b2.size; simpa using this
  replace b2 := past_alloc b2
  (replace f0 := keepz b2 t0 f0; replace f1 := keepz b2 t1 f1; replace f2 := keepz b2 t2 f2)
  (replace t0 := keep b2 t0; replace t1 := keep b2 t1; replace t2 := keep b2 t2)
  replace b1 := below_in b1 b2
  have hq := lit_q w2 qs2 (by decide) qs2_typed
  replace hc := hc.keep ((Below.refl _ w2).alloc (Nat.le_refl _) (.cells (flat Qt.cs qs2).toArray 26))
  replace f0 := fun o => keepfa t0 f0 o
  replace f1 := fun o => keepfa t1 f1 o
  replace f2 := fun o => keepfa t2 f2 o
  (replace t0 := fun o => keepa t0 o; replace t1 := fun o => keepa t1 o; replace t2 := fun o => keepa t2 o)
  clear b2
  go_wp2
  exact bodyPost_ret (v := .agg #[.slice (some ⟨w1.heap.size, 0, none⟩) 2 2, .slice (some ⟨w2.heap.size, 0, none⟩) 1 1, .int .i64 4]) (by simp [results, Try.results8, go_sem, t0, t1, t2]) rfl ⟨w1.heap.size, w2.heap.size, by omega, by omega, by omega, rfl, OwnC.mono (((hc.set (by show w.heap.size < _; omega) _).set (by show w.heap.size < _; omega) _).set (by show w.heap.size < _; omega) _) (by omega), OwnQ.mono (((hq.set (by show w.heap.size < _; omega) _).set (by show w.heap.size < _; omega) _).set (by show w.heap.size < _; omega) _) (by omega), set3 (b1.alloc b1.size _) (by omega) _ _ _⟩
end Go.Proofs.Ytmmjciigbmgloaa
