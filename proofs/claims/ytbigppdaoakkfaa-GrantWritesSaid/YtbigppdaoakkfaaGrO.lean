/-
  Rows of the call's own: where they lie; a user's clearance written.
-/
import Derived.Test.YtbigppdaoakkfaaGrW
import Derived.Test.YtbigppdaoakkfaaPoT
namespace Go.Proofs.Ytbigppdaoakkfaa
open Go.RowKit Go.ChangeShapes Go.WideShapes Go.ChangeAt
set_option linter.unusedVariables false
set_option linter.unusedSimpArgs false

theorem OwnC.set {w : World} {base : Nat} {A : Option Addr} {c : Nat} {l : List Cl} (h : OwnC w base A c l) {a : Addr} (ha : a.block < base) (u : Value) : OwnC (w.setCell a u) base A c l := ⟨h.1.set ha u, h.2⟩
theorem OwnQ.set {w : World} {base : Nat} {A : Option Addr} {c : Nat} {l : List Qt} (h : OwnQ w base A c l) {a : Addr} (ha : a.block < base) (u : Value) : OwnQ (w.setCell a u) base A c l := ⟨h.1.set ha u, h.2⟩
theorem OwnC.mono {w : World} {base base' : Nat} {A : Option Addr} {c : Nat} {l : List Cl} (h : OwnC w base A c l) (hb : base' ≤ base) : OwnC w base' A c l := ⟨h.1.mono hb, h.2⟩
theorem OwnQ.mono {w : World} {base base' : Nat} {A : Option Addr} {c : Nat} {l : List Qt} (h : OwnQ w base A c l) (hb : base' ≤ base) : OwnQ w base' A c l := ⟨h.1.mono hb, h.2⟩
theorem OwnC.nil (w : World) (base : Nat) : OwnC w base none 0 [] := ⟨Owns.nil w base _, fun x hx => by cases hx⟩
theorem OwnQ.nil (w : World) (base : Nat) : OwnQ w base none 0 [] := ⟨Owns.nil w base _, fun x hx => by cases hx⟩
theorem far_set {w w' : World} {a : Addr} {v v' : Value} {o : Nat} (h : w'.cell? a = some v) (h3 : w.cell? a = some v') (x : Value) : (w'.setCell ⟨w.heap.size, o, none⟩ x).cell? a = some v := by
  rw [World.cell?_setCell_far _ _ _ _ (Nat.ne_of_gt (World.block_lt_of_cell? w a h3))]; exact h
theorem keepfa {w : World} {a : Addr} {v : Value} (hc : w.cell? a = some v) (hz : w.frozen? a = false) (o : Obj) : (w.alloc o).frozen? a = false := keepz ((Below.refl _ w).alloc (Nat.le_refl _) o) hc hz

/-- A row of the call's own, and where it lies. -/
theorem row_at {w : World} {base : Nat} {e : TypeId} {s : Nat} {A : Option Addr} {n c : Nat} {xs : List Value} (h : w.ownsRow base e s (.slice A n c) n xs) (hn : 0 < n) :
    ∃ g, A = some ⟨g, 0, none⟩ ∧ base ≤ g ∧ g < w.heap.size ∧ (∃ cur, w.heap[g]? = some (.cells cur e (0, 0))) ∧ (∀ j u, xs[j]? = some u → w.cell? ⟨g, j, none⟩ = some u) ∧ (∀ j, w.frozen? ⟨g, j, none⟩ = false) := by
  obtain ⟨h0, h1⟩ := h
  rcases h1 with ⟨hv, hn0⟩ | ⟨g, cap, cur, hv, hbg, hg, hnc, hcm, hcs, htk⟩
  · omega
  · injection hv with h1 h2 h3
    subst h1 h3
    refine ⟨g, rfl, hbg, ?_, ⟨cur, hg⟩, fun j u hu => ?_, fun j => frozen_of_row w g j cur e hg⟩
    · rcases Nat.lt_or_ge g w.heap.size with h' | h'
      · exact h'
      · rw [Array.getElem?_eq_none h'] at hg; cases hg
    · rw [cell_of_row w g j cur e (0, 0) hg]
      rw [← htk, List.getElem?_take] at hu
      split at hu
      · rw [← Array.getElem?_toList]; exact hu
      · cases hu
theorem rows_apart {w : World} {base e e' s' g : Nat} {cur : Array Value} {B : Option Addr} {m d : Nat} {ys : List Value} (h1 : w.heap[g]? = some (.cells cur e (0, 0))) (he : e ≠ e') (h : w.ownsRow base e' s' (.slice B m d) m ys) : (Value.slice B m d).ownBlock ≠ some g := by
  rcases h.2 with ⟨hv, _⟩ | ⟨g', cap, cur', hv, _, hg, _⟩
  · rw [hv]; intro hh; cases hh
  · rw [hv]
    intro hh
    have e1 : g' = g := by simpa [Value.ownBlock] using hh
    subst e1
    rw [h1] at hg
    injection hg with hg
    injection hg with _ hg
    exact he hg
theorem row_cap {w : World} {base : Nat} {e : TypeId} {s : Nat} {A : Option Addr} {n c : Nat} {xs : List Value} (h : w.ownsRow base e s (.slice A n c) n xs) : n ≤ c ∧ c ≤ 9223372036854775807 := by
  obtain ⟨h0, h1⟩ := h
  rcases h1 with ⟨hv, hn0⟩ | ⟨g, cap, cur, hv, hbg, hg, hnc, hcm, hcs, htk⟩
  · injection hv with h1 h2 h3; omega
  · injection hv with h1 h2 h3
    subst h3
    exact ⟨hnc, hcm⟩
theorem row_far {w : World} {base : Nat} {e : TypeId} {s : Nat} {A : Option Addr} {n c : Nat} {xs : List Value} (h : w.ownsRow base e s (.slice A n c) n xs) {g : Nat} (hg : (Value.slice A n c).ownBlock ≠ some g) (j : Nat) (u : Value) : (w.setCell ⟨g, j, none⟩ u).ownsRow base e s (.slice A n c) n xs := by
  obtain ⟨h0, h1⟩ := h
  refine ⟨by simpa using h0, ?_⟩
  rcases h1 with h1 | ⟨g', cap, cur, hv, hbg, hh, r⟩
  · exact .inl h1
  · refine .inr ⟨g', cap, cur, hv, hbg, ?_, r⟩
    rw [heap_setCell_other w ⟨g, j, none⟩ g' u (fun e => hg (by rw [hv, e]; rfl))]
    exact hh

/-- A clearance written into a row of clearances. -/
theorem flat_set : ∀ (us : List Cl) (j : Nat) (x : Cl), flat Cl.cs (us.set j x) = (((flat Cl.cs us).set (j * 3) (.int .u8 x.l)).set (j * 3 + 1) (.int .u32 x.c)).set (j * 3 + 2) (.bool x.ok)
  | [], j, x => by simp [flat]
  | y :: us, 0, x => by simp [flat, Cl.cs]
  | y :: us, j + 1, x => by
    rw [List.set_cons_succ, flat, flat_set us j x, flat, show (j + 1) * 3 = j * 3 + 3 by omega]
    simp [Cl.cs, List.set_cons_succ]
theorem flat_ok : ∀ (us : List Cl) (j : Nat) (x : Cl) (b : Bool), us[j]? = some x → flat Cl.cs (us.set j ⟨x.l, x.c, b⟩) = (flat Cl.cs us).set (j * 3 + 2) (.bool b)
  | [], j, x, b, h => by simp at h
  | y :: us, 0, x, b, h => by
    simp at h
    subst h
    simp [flat, Cl.cs]
  | y :: us, j + 1, x, b, h => by
    rw [List.set_cons_succ, flat, flat_ok us j x b (by simpa using h), flat, show (j + 1) * 3 = j * 3 + 3 by omega]
    simp [Cl.cs, List.set_cons_succ]
theorem typed_set {us : List Cl} (h : ∀ x ∈ us, x.typed) (j : Nat) {y : Cl} (hy : y.typed) : ∀ x ∈ us.set j y, x.typed := fun x hx => by
  rcases List.mem_or_eq_of_mem_set hx with h1 | h1
  · exact h x h1
  · rw [h1]; exact hy
theorem OwnC.put {w : World} {base g c : Nat} {us : List Cl} (h : OwnC w base (some ⟨g, 0, none⟩) c us) (j : Nat) (x : Cl) (hx : x.typed) :
    OwnC (((w.setCell ⟨g, j * 3, none⟩ (.int .u8 x.l)).setCell ⟨g, j * 3 + 1, none⟩ (.int .u32 x.c)).setCell ⟨g, j * 3 + 2, none⟩ (.bool x.ok)) base (some ⟨g, 0, none⟩) c (us.set j x) := by
  refine ⟨?_, typed_set h.2 j hx⟩
  have r1 := (World.ownsRow.stored h.1 (j * 3) (.int .u8 x.l)).1
  have r2 := (World.ownsRow.stored r1 (j * 3 + 1) (.int .u32 x.c)).1
  have r3 := (World.ownsRow.stored r2 (j * 3 + 2) (.bool x.ok)).1
  unfold Owns
  rw [flat_set, List.length_set]
  exact r3
theorem OwnC.turn {w : World} {base g c : Nat} {us : List Cl} (h : OwnC w base (some ⟨g, 0, none⟩) c us) (j : Nat) (x : Cl) (b : Bool) (hx : us[j]? = some x) :
    OwnC (w.setCell ⟨g, j * 3 + 2, none⟩ (.bool b)) base (some ⟨g, 0, none⟩) c (us.set j ⟨x.l, x.c, b⟩) := by
  refine ⟨?_, typed_set h.2 j (show Cl.typed ⟨x.l, x.c, b⟩ from h.2 x (List.mem_of_getElem? hx))⟩
  have r3 := (World.ownsRow.stored h.1 (j * 3 + 2) (.bool b)).1
  unfold Owns
  rw [flat_ok us j x b hx, List.length_set]
  exact r3

/-- What the box of a policy holds. -/
structure Box (w : World) (T : Nat) (A : Option Addr) (n c : Nat) (B : Option Addr) (m d : Nat) (g : Int) : Prop where
  c0 : w.cell? ⟨T, 0, none⟩ = some (.slice A n c)
  c1 : w.cell? ⟨T, 1, none⟩ = some (.slice B m d)
  c2 : w.cell? ⟨T, 2, none⟩ = some (.int .i64 g)
theorem Box.keep {w w' : World} (hb : Below w.heap.size w w') {T : Nat} {A : Option Addr} {n c : Nat} {B : Option Addr} {m d : Nat} {g : Int} (h : Box w T A n c B m d g) : Box w' T A n c B m d g :=
  ⟨Go.Proofs.Ytbigppdaoakkfaa.keep hb h.c0, Go.Proofs.Ytbigppdaoakkfaa.keep hb h.c1, Go.Proofs.Ytbigppdaoakkfaa.keep hb h.c2⟩
theorem Box.far {w : World} {T : Nat} {A : Option Addr} {n c : Nat} {B : Option Addr} {m d : Nat} {g : Int} (h : Box w T A n c B m d g) {b : Nat} (hb : b ≠ T) (j : Nat) (u : Value) : Box (w.setCell ⟨b, j, none⟩ u) T A n c B m d g :=
  ⟨by rw [World.cell?_setCell_far _ _ _ _ hb]; exact h.c0, by rw [World.cell?_setCell_far _ _ _ _ hb]; exact h.c1, by rw [World.cell?_setCell_far _ _ _ _ hb]; exact h.c2⟩
theorem Box.drew {w : World} {T : Nat} {A : Option Addr} {n c : Nat} {B : Option Addr} {m d : Nat} {g : Int} (h : Box w T A n c B m d g) : Box w.drew T A n c B m d g := ⟨h.c0, h.c1, h.c2⟩
end Go.Proofs.Ytbigppdaoakkfaa
