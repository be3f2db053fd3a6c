/-
  Words: sectors of the call's own, no two of whose bytes lie in one row; such sectors written over.
-/
import Derived.Test.YtofnjdkfhboapaaDkE
import Derived.Laws.CopyOwn
namespace Go.Proofs.Ytofnjdkfhboapaa
open Go.RowKit Go.ChangeShapes Go.WideShapes Go.ChangeAt
set_option linter.unusedVariables false
set_option linter.unusedSimpArgs false

def apX (x y : Sx) : Prop := x.A = none ∨ x.A ≠ y.A
def ApX (xs : List Sx) : Prop := ∀ i j (hi : i < xs.length) (hj : j < xs.length), i ≠ j → apX xs[i] xs[j]
def OwT (w : World) (base : Nat) (A : Option Addr) (c : Nat) (L : List Sct) : Prop := ∃ xs : List Sx, xs.map toS = L ∧ Owns fk 2 w base 56 A c xs ∧ (∀ x ∈ xs, Own w base 5 x.A x.c x.l) ∧ ApX xs
theorem OwT.nil (w : World) (base : Nat) : OwT w base none 0 [] := ⟨[], rfl, Owns.nil w base _, fun x hx => (by cases hx), fun i j hi => absurd hi (by simp)⟩
theorem OwT.keep {w w' : World} {base : Nat} {A : Option Addr} {c : Nat} {L : List Sct} (h : OwT w base A c L) (hb : Below w.heap.size w w') : OwT w' base A c L := by
  obtain ⟨xs, h1, h2, h3, h4⟩ := h
  exact ⟨xs, h1, h2.keep hb, fun x hx => (h3 x hx).keep hb, h4⟩
theorem OwT.ows {w : World} {base : Nat} {A : Option Addr} {c : Nat} {L : List Sct} (h : OwT w base A c L) : OwS w base A c L := by
  obtain ⟨xs, h1, h2, h3, h4⟩ := h
  exact ⟨xs, h1, h2, h3⟩
theorem OwT.rd {w : World} {base : Nat} {A : Option Addr} {c : Nat} {L : List Sct} (h : OwT w base A c L) : RdS w A c L := h.ows.rd
theorem OwT.base {w : World} {base base' : Nat} {A : Option Addr} {c : Nat} {L : List Sct} (h : OwT w base A c L) (hb : base' ≤ base) : OwT w base' A c L := by
  obtain ⟨xs, h1, h2, h3, h4⟩ := h
  exact ⟨xs, h1, h2.mono hb, fun x hx => own_monob (h3 x hx) hb, h4⟩
theorem OwT.same {W W' : World} {base : Nat} {A : Option Addr} {c : Nat} {L : List Sct} (h : OwT W base A c L) {g : Nat} (hg : g < base) (hh : ∀ k, k ≠ g → W'.heap[k]? = W.heap[k]?) : OwT W' base A c L := by
  obtain ⟨xs, h1, h2, h3, h4⟩ := h
  exact ⟨xs, h1, own_other hh hg h2, fun x hx => own_other hh hg (h3 x hx), h4⟩
theorem OwT.setc {W : World} {base : Nat} {A : Option Addr} {c : Nat} {L : List Sct} (h : OwT W base A c L) {g : Nat} (hg : g < base) (k : Nat) (v : Value) : OwT (W.setCell ⟨g, k, none⟩ v) base A c L :=
  h.same hg fun q hq => Below.heap_setCell _ _ _ _ hq

/-- As it was below its size, but for one block. -/
structure But (G : Nat) (w w' : World) : Prop where
  os : w'.os = w.os
  tape : w'.tape = w.tape
  output : w'.output = w.output
  size : w.heap.size ≤ w'.heap.size
  block : ∀ k, k < w.heap.size → k ≠ G → w'.heap[k]? = w.heap[k]?
theorem But.of {G : Nat} {w w' : World} (h : Below w.heap.size w w') : But G w w' := ⟨h.os, h.tape, h.output, h.size, fun k hk _ => h.block k hk⟩
theorem But.trans {G : Nat} {a b c : World} (h : But G a b) (k : But G b c) : But G a c :=
  ⟨k.os.trans h.os, k.tape.trans h.tape, k.output.trans h.output, Nat.le_trans h.size k.size, fun i hi hn => (k.block i (Nat.lt_of_lt_of_le hi h.size) hn).trans (h.block i hi hn)⟩
theorem But.setc {G : Nat} {w w' : World} (h : But G w w') (k : Nat) (v : Value) : But G w (w'.setCell ⟨G, k, none⟩ v) :=
  h.trans ⟨rfl, rfl, rfl, by simp [World.setCell], fun k hk hn => Below.heap_setCell _ _ _ _ hn⟩
theorem But.below {G B : Nat} {w w' : World} (h : But G w w') (hB : B ≤ G) (hs : B ≤ w.heap.size) : Below B w w' := ⟨h.os, h.tape, h.output, h.size, fun k hk => h.block k (by omega) (by omega)⟩
theorem But.cell {G : Nat} {w w' : World} (h : But G w w') {a : Addr} {v : Value} (ha : a.block ≠ G) (hc : w.cell? a = some v) : w'.cell? a = some v := by
  rw [World.cell?_of_block (w := w) (h.block a.block (World.block_lt_of_cell? w a hc) ha)]; exact hc
/-- A row of the call's own, and where it lies. -/
theorem row_at {w : World} {base : Nat} {e : TypeId} {s : Nat} {A : Option Addr} {n c : Nat} {xs : List Value} (h : w.ownsRow base e s (.slice A n c) n xs) (hn : 0 < n) :
    ∃ g, A = some ⟨g, 0, none⟩ ∧ base ≤ g ∧ g < w.heap.size ∧ (∃ cur, w.heap[g]? = some (.cells cur e (0, 0))) ∧ (∀ j u, xs[j]? = some u → w.cell? ⟨g, j, none⟩ = some u) ∧ (∀ j, w.frozen? ⟨g, j, none⟩ = false) := by
  obtain ⟨h0, h1⟩ := h
  rcases h1 with ⟨hv, hn0⟩ | ⟨g, cap, cur, hv, hbg, hg, hnc, hcm, hcs, htk⟩
  · omega
  · injection hv with h1 h2 h3
    subst h1 h3
    refine ⟨g, rfl, hbg, ?_, ⟨cur, hg⟩, fun j u hu => ?_, fun j => frozen_of_row w g j cur e hg⟩
    · rcases Nat.lt_or_ge g w.heap.size with h' | h'
      · exact h'
      · rw [Array.getElem?_eq_none h'] at hg; cases hg
    · rw [cell_of_row w g j cur e (0, 0) hg]
      rw [← htk, List.getElem?_take] at hu
      split at hu
      · rw [← Array.getElem?_toList]; exact hu
      · cases hu
/-- Where such a row lies, even an empty one. -/
theorem row_some {w : World} {base : Nat} {e : TypeId} {s n c : Nat} {a : Addr} {xs : List Value} (h : w.ownsRow base e s (.slice (some a) n c) n xs) : ∃ g cur, a = ⟨g, 0, none⟩ ∧ base ≤ g ∧ g < w.heap.size ∧ w.heap[g]? = some (.cells cur e (0, 0)) := by
  obtain ⟨h0, h1⟩ := h
  rcases h1 with ⟨hv, hn0⟩ | ⟨g, cap, cur, hv, hbg, hg, r⟩
  · injection hv with h1 h2 h3; cases h1
  · injection hv with h1 h2 h3
    injection h1 with h1
    refine ⟨g, cur, h1, hbg, ?_, hg⟩
    rcases Nat.lt_or_ge g w.heap.size with h' | h'
    · exact h'
    · rw [Array.getElem?_eq_none h'] at hg; cases hg
/-- A row that lies elsewhere than the block that was written. -/
theorem row_else {W W' : World} {g : Nat} (hh : ∀ k, k ≠ g → W'.heap[k]? = W.heap[k]?) {base : Nat} {e : TypeId} {s k : Nat} {A : Option Addr} {m c : Nat} {xs : List Value} (h : W.ownsRow base e s (.slice A m c) k xs) (hne : ∀ a, A = some a → a.block ≠ g) : W'.ownsRow base e s (.slice A m c) k xs := by
  obtain ⟨h0, h1⟩ := h
  refine ⟨h0, ?_⟩
  rcases h1 with h | ⟨g', cap, cur, hv, hbg, hg, r⟩
  · exact .inl h
  · refine .inr ⟨g', cap, cur, hv, hbg, ?_, r⟩
    rw [hh g' (by
      injection hv with h1 h2 h3
      exact hne _ h1)]
    exact hg
theorem row_type {w : World} {base e e' s' g : Nat} {cur : Array Value} {B : Option Addr} {m d : Nat} {ys : List Value} (h1 : w.heap[g]? = some (.cells cur e (0, 0))) (he : e ≠ e') (h : w.ownsRow base e' s' (.slice B m d) m ys) : ∀ a, B = some a → a.block ≠ g := by
  rintro a rfl hg
  obtain ⟨g', cur', rfl, _, _, h2⟩ := row_some h
  simp only at hg
  subst hg
  rw [h1] at h2
  injection h2 with h2
  injection h2 with _ h2
  exact he h2

theorem flat_fk_set : ∀ (us : List Sx) (j : Nat) (x : Sx), flat fk (us.set j x) = ((flat fk us).set (j * 2) (.int .i64 x.a)).set (j * 2 + 1) (.slice x.A x.l.length x.c)
  | [], j, x => by simp [flat]
  | y :: us, 0, x => by simp [flat, fk]
  | y :: us, j + 1, x => by
    rw [List.set_cons_succ, flat, flat_fk_set us j x, flat, show (j + 1) * 2 = j * 2 + 2 by omega]
    simp [fk, List.set_cons_succ]
theorem map_set {us : List Sx} (j : Nat) (x : Sx) : (us.set j x).map toS = (us.map toS).set j (toS x) := by
  refine List.ext_getElem (by simp) fun i h1 h2 => ?_
  simp only [List.getElem_map, List.getElem_set]
  split <;> rfl
theorem apX_set {xs : List Sx} (h : ApX xs) (j : Nat) (x : Sx) (hx : ∀ i (hi : i < xs.length), i ≠ j → apX xs[i] x ∧ apX x xs[i]) : ApX (xs.set j x) := by
  intro i k hi hk hne
  rw [List.length_set] at hi hk
  rw [List.getElem_set, List.getElem_set]
  by_cases h1 : j = i
  · subst h1
    rw [if_pos rfl, if_neg (by omega)]
    exact (hx k hk (by omega)).2
  · rw [if_neg h1]
    by_cases h2 : j = k
    · subst h2
      rw [if_pos rfl]
      exact (hx i hi (by omega)).1
    · rw [if_neg h2]
      exact h i k hi hk hne
/-- A sector whose bytes are new is written over one of them. -/
theorem OwT.put {w0 w : World} {base : Nat} {b c : Nat} {L : List Sct} (h : OwT w0 base (some ⟨b, 0, none⟩) c L) (j : Nat) (hj : j < L.length) (z : Int) {B : Option Addr} {m d : Nat} {y : List UInt8} (hm : y.length = m) (hb : Below w0.heap.size w0 w) (hy : Own w w0.heap.size 5 B d y) (hbase : base ≤ w0.heap.size) :
    OwT ((w.setCell ⟨b, j * 2, none⟩ (.int .i64 z)).setCell ⟨b, j * 2 + 1, none⟩ (.slice B m d)) base (some ⟨b, 0, none⟩) c (L.set j ⟨z, y⟩) ∧ Below base w ((w.setCell ⟨b, j * 2, none⟩ (.int .i64 z)).setCell ⟨b, j * 2 + 1, none⟩ (.slice B m d)) := by
  subst hm
  obtain ⟨w', hw⟩ : ∃ w', w' = (w.setCell ⟨b, j * 2, none⟩ (.int .i64 z)).setCell ⟨b, j * 2 + 1, none⟩ (.slice B y.length d) := ⟨_, rfl⟩
  rw [← hw]
  obtain ⟨xs, h1, h2, h3, h4⟩ := h
  have hjx : j < xs.length := by rw [← h1, List.length_map] at hj; exact hj
  obtain ⟨g, cur, hg, hbg, hgs, hgc⟩ := row_some h2
  injection hg with e1 e2 e3
  subst e1
  have hh : ∀ k, k ≠ b → w'.heap[k]? = w.heap[k]? := fun k hk => by
    rw [hw, Below.heap_setCell _ _ _ _ hk, Below.heap_setCell _ _ _ _ hk]
  have hgw : w.heap[b]? = some (.cells cur 56 (0, 0)) := by rw [hb.block b hgs]; exact hgc
  have r1 := (World.ownsRow.stored (h2.keep hb) (j * 2) (.int .i64 z)).1
  have r2 := (World.ownsRow.stored r1 (j * 2 + 1) (.slice B y.length d)).1
  refine ⟨⟨xs.set j ⟨z, B, d, y⟩, by rw [map_set, h1]; rfl, ?_, fun x hx => ?_, apX_set h4 j _ fun i hi hij => ?_⟩, ?_⟩
  · unfold Owns
    rw [flat_fk_set, List.length_set, hw]
    exact r2
  · have key : ∀ u : Sx, Own w base 5 u.A u.c u.l → Own w' base 5 u.A u.c u.l := fun u hu => row_else hh hu (row_type hgw (by decide) hu)
    rcases List.mem_or_eq_of_mem_set hx with hx | rfl
    · exact key _ ((h3 x hx).keep hb)
    · exact key ⟨z, B, d, y⟩ (own_monob hy hbase)
  · have hx := h3 xs[i] (List.getElem_mem hi)
    have hne : xs[i].A = none ∨ B = none ∨ xs[i].A ≠ B := by
      cases hxa : xs[i].A with
      | none => exact .inl rfl
      | some a =>
        cases hB : B with
        | none => exact .inr (.inl rfl)
        | some a2 =>
          rw [hxa] at hx
          rw [hB] at hy
          obtain ⟨g1, _, rfl, _, hs1, _⟩ := row_some hx
          obtain ⟨g2, _, rfl, hs2, _, _⟩ := row_some hy
          refine .inr (.inr fun e => ?_)
          injection e with e
          injection e with e
          omega
    rcases hne with h | h | h
    · refine ⟨.inl h, ?_⟩
      by_cases hB : B = none
      · exact .inl hB
      · exact .inr (by rw [h]; exact hB)
    · refine ⟨?_, .inl h⟩
      by_cases hA : xs[i].A = none
      · exact .inl hA
      · exact .inr (by simp only; rw [h]; exact hA)
    · exact ⟨.inr h, .inr (Ne.symm h)⟩
  · rw [hw]
    exact ((Below.refl base w).setCell (p := ⟨b, j * 2, none⟩) hbg _).setCell (p := ⟨b, j * 2 + 1, none⟩) hbg _
/-- Where one of them stands. -/
theorem OwT.slot {w : World} {base b o c : Nat} {L : List Sct} (h : OwT w base (some ⟨b, o, none⟩) c L) (j : Nat) (hj : j < L.length) :
    (∃ v, w.cell? ⟨b, j * 2, none⟩ = some v) ∧ (∃ v, w.cell? ⟨b, j * 2 + 1, none⟩ = some v) ∧ (∀ k, w.frozen? ⟨b, k, none⟩ = false) ∧ base ≤ b ∧ b < w.heap.size := by
  obtain ⟨xs, h1, h2, h3, h4⟩ := h
  have hjx : j < xs.length := by rw [← h1, List.length_map] at hj; exact hj
  obtain ⟨g, hA, hbb, hbs, _, hcb, hz⟩ := row_at h2 (by omega)
  injection hA with hA
  injection hA with e1 e2 e3
  subst e1
  exact ⟨⟨_, hcb (j * 2) (.int .i64 xs[j].a) (by rw [← Nat.add_zero (j * 2), flat_at fk_len xs j hjx 0 (by omega)]; rfl)⟩, ⟨_, hcb (j * 2 + 1) (.slice xs[j].A xs[j].l.length xs[j].c) (by rw [flat_at fk_len xs j hjx 1 (by omega)]; rfl)⟩, hz, hbb, hbs⟩
/-- The bytes of one of them are written over. -/
theorem OwT.upd {w : World} {base : Nat} {A : Option Addr} {c : Nat} {L : List Sct} (h : OwT w base A c L) (j : Nat) (hj : j < L.length) (hp : 0 < L[j].b.length) :
    ∃ g X x, A = some X ∧ base ≤ g ∧ g < w.heap.size ∧ w.cell? ⟨X.block, j * 2 + 1, none⟩ = some (.slice (some ⟨g, 0, none⟩) L[j].b.length x) ∧ Own w base 5 (some ⟨g, 0, none⟩) x L[j].b ∧
      ∀ (w' : World) (y : List UInt8), y.length = L[j].b.length → Own w' base 5 (some ⟨g, 0, none⟩) x y → (∀ k, k ≠ g → w'.heap[k]? = w.heap[k]?) → OwT w' base A c (L.set j ⟨L[j].a, y⟩) := by
  obtain ⟨xs, h1, h2, h3, h4⟩ := h
  have hjx : j < xs.length := by rw [← h1, List.length_map] at hj; exact hj
  have ej : L[j] = toS xs[j] := by simp [← h1]
  rw [ej] at hp
  have ho := h3 xs[j] (List.getElem_mem hjx)
  obtain ⟨g, hgA, hbg, hgs, ⟨cur, hgc⟩, _, _⟩ := row_at ho hp
  obtain ⟨b, hbA, hbb, hbs, ⟨curb, hbc⟩, hcb, _⟩ := row_at h2 (by omega)
  refine ⟨g, ⟨b, 0, none⟩, xs[j].c, hbA, hbg, hgs, ?_, ?_, fun w' y hy ho' hh => ?_⟩
  · rw [hcb (j * 2 + 1) (.slice xs[j].A xs[j].l.length xs[j].c) (by rw [flat_at fk_len xs j hjx 1 (by omega)]; rfl), ej, hgA]; rfl
  · rw [ej, ← hgA]; exact ho
  · rw [ej]
    refine ⟨xs.set j ⟨xs[j].a, xs[j].A, xs[j].c, y⟩, by rw [map_set, h1]; rfl, ?_, fun x hx => ?_, apX_set h4 j _ fun i hi hij => ?_⟩
    · have e : flat fk (xs.set j ⟨xs[j].a, xs[j].A, xs[j].c, y⟩) = flat fk xs := by
        refine List.ext_getElem? fun q => ?_
        rw [flat_fk_set]
        rw [ej] at hy
        have hy' : y.length = xs[j].l.length := hy
        simp only [hy', List.getElem?_set, List.length_set, flat_length fk_len]
        have q0 := flat_at fk_len xs j hjx 0 (by omega)
        have q1 := flat_at fk_len xs j hjx 1 (by omega)
        simp only [Nat.add_zero] at q0
        split
        · rename_i hq
          subst hq
          rw [if_pos (by omega), q1]; rfl
        · split
          · rename_i hq
            subst hq
            rw [if_pos (by omega), q0]; rfl
          · rfl
      unfold Owns
      rw [e, List.length_set]
      exact row_else hh h2 (row_type hgc (by decide) h2)
    · obtain ⟨i, hi, rfl⟩ := List.getElem_of_mem hx
      rw [List.length_set] at hi
      rw [List.getElem_set]
      by_cases hij : j = i
      · rw [if_pos hij, hgA]
        exact ho'
      · rw [if_neg hij]
        have hx := h3 xs[i] (List.getElem_mem hi)
        refine row_else hh hx fun a ha hag => ?_
        rw [ha] at hx
        obtain ⟨g', _, rfl, _, _, _⟩ := row_some hx
        simp only at hag
        subst hag
        rcases h4 i j hi hjx (Ne.symm hij) with h | h
        · rw [ha] at h; cases h
        · exact h (by rw [ha, hgA])
    · exact ⟨h4 i j hi hjx hij, h4 j i hjx hi (Ne.symm hij)⟩
end Go.Proofs.Ytofnjdkfhboapaa
