/-
  Small lemmas of our own for walks, over any program: a region that draws its order, whose operations only read and whose callees may make memory of their own, walked once ('Past').
-/
import Derived.WalkKit
import Derived.WalkSpells
import Derived.WalkLawsBesides
import Derived.BigQuiet
import Derived.Handy
import Derived.Deep.RegionHeld
namespace Go.Proofs.Ytofnjdkfhboapaa
open Go.RowKit
set_option linter.unusedVariables false

theorem hid {p : Prop} (h : p) : Hid p := h

/-- The worlds that are as 'w' was, below w's size. -/
def Past (w : World) : Type := { w' : World // Below w.heap.size w w' }

instance (w : World) : Nonempty (Past w) := ⟨⟨w, Below.refl _ w⟩⟩

theorem Past.cell {w : World} (x : Past w) {b : Nat} {o : Nat} {f : Option Nat} (h : b < w.heap.size) : x.1.cell? ⟨b, o, f⟩ = w.cell? ⟨b, o, f⟩ := x.2.cell (p := ⟨b, o, f⟩) h

theorem Past.keeps {w : World} (x : Past w) {a : Addr} {v : Value} (h : w.cell? a = some v) : x.1.cell? a = some v := by
  rw [x.2.cell (World.block_lt_of_cell? w a h)]; exact h

/-- Behind a call that makes memory alone: a cell reads as before; it is not frozen if it was not. -/
theorem keep {w w' : World} (h : Below w.heap.size w w') {a : Addr} {v : Value} (hc : w.cell? a = some v) : w'.cell? a = some v := by
  rw [h.cell (World.block_lt_of_cell? w a hc)]; exact hc
theorem keepz {w w' : World} (h : Below w.heap.size w w') {a : Addr} {v : Value} (hc : w.cell? a = some v) (hz : w.frozen? a = false) : w'.frozen? a = false := by
  rw [h.frozen (World.block_lt_of_cell? w a hc)]; exact hz

/-- A cell that is there reads the same with a new block behind it. -/
theorem keepa {w : World} {a : Addr} {v : Value} (hc : w.cell? a = some v) (o : Obj) : (w.alloc o).cell? a = some v := by
  rw [World.cell?_alloc_some w a o (by rw [hc]; rfl)]; exact hc

theorem quiet_below {P : Program} {f : FuncId} {args : Array Value} {w : World} {x : Past w} {v : Value}
    (h : Calls P f args x.1 fun e w' => e = .returned v ∧ Below x.1.heap.size x.1 w') : Calls P f args x.1 fun e w'' => e = .returned v ∧ ∃ y : Past w, w'' = y.1 :=
  h.mono fun _ w' ⟨he, hb⟩ => ⟨he, ⟨w', x.2.trans (hb.mono x.2.size)⟩, rfl⟩

theorem wp_region_past {P : Program} {id : Nat} {Q : Exit → Act → World → Prop} {a : Act} {w : World} {l : List Oper} (hm : P.follows .mixedOrders = true) (hB : Region.lexB .any l.toArray = true)
    (h : wpQuiet P l.toArray (fun w' => ∃ x : Past w, w' = x.1) (fun a' => ∀ w', (∃ x : Past w, w' = x.1) → Q .normal a' w') l a) : (Code.region id l.toArray true).wp P Q a w :=
  wp_region_quiet (C := fun w' => ∃ x : Past w, w' = x.1) hm hB ⟨⟨_, (Below.refl _ w).drew⟩, rfl⟩ (by simpa using h)

/-- A region that is carried out in the order of the text, likewise. -/
theorem wpList_of_quiet {P : Program} {ops : Array Oper} {C : World → Prop} {Q : Act → Prop} {Q' : Exit → Act → World → Prop} (hQ : ∀ a w, C w → Q a → Q' .normal a w) :
    ∀ (l : List Oper) (a : Act) (w : World), C w → wpQuiet P ops C Q l a → wpList P ops Q' l a w
  | [], _, _, hw, h => hQ _ _ hw h
  | o :: rest, a, w, hw, h => by
    simp only [wpQuiet, wpList] at *
    split
    · rename_i hwt
      simp only [hwt, if_true] at h
      exact .inl (Oper.wp_of_quiet hw (fun a' w' hw' h' => wpList_of_quiet hQ rest a' w' hw' h') h)
    · rename_i hwt
      simp only [hwt] at h
      exact wpList_of_quiet hQ rest _ _ hw h

theorem wp_region_past' {P : Program} {id : Nat} {Q : Exit → Act → World → Prop} {a : Act} {w : World} {l : List Oper}
    (h : wpQuiet P l.toArray (fun w' => ∃ x : Past w, w' = x.1) (fun a' => ∀ w', (∃ x : Past w, w' = x.1) → Q .normal a' w') l a) : (Code.region id l.toArray false).wp P Q a w :=
  wp_region_lit (wpList_of_quiet (Q := fun a' => ∀ w', (∃ x : Past w, w' = x.1) → Q .normal a' w') (fun _ _ hw h => h _ hw) l a w ⟨⟨w, Below.refl _ w⟩, rfl⟩ h)

theorem wpList_past {P : Program} {ops : Array Oper} {Q : Exit → Act → World → Prop} {a : Act} {w : World} {l : List Oper}
    (h : wpQuiet P ops (fun w' => ∃ x : Past w, w' = x.1) (fun a' => ∀ w', (∃ x : Past w, w' = x.1) → Q .normal a' w') l a) : wpList P ops Q l a w :=
  wpList_of_quiet (Q := fun a' => ∀ w', (∃ x : Past w, w' = x.1) → Q .normal a' w') (fun _ _ hw h => h _ hw) l a w ⟨⟨w, Below.refl _ w⟩, rfl⟩ h

theorem Past.all {w : World} {a : Addr} {v : Value} (h : w.cell? a = some v) : ∀ x : Past w, x.1.cell? a = some v := fun x => x.keeps h
end Go.Proofs.Ytofnjdkfhboapaa
