/-
  Disks: mathematics: what a write turns, and what it leaves; places found.
-/
import Derived.Test.YtofnjdkfhboapaaDkM
namespace Go.Proofs.Ytofnjdkfhboapaa
open Go.RowKit
set_option linter.unusedVariables false
set_option linter.unusedSimpArgs false

def okSct (s : Sct) : Prop := 0 ≤ s.a ∧ s.a < 6146 ∧ s.b.length = 128
theorem secs_iff (l : List Sct) : secsB l = true ↔ (∀ s ∈ l, okSct s) ∧ l.Pairwise (fun x y => x.a < y.a) := by
  constructor
  · intro h
    refine ⟨fun s hs => ?_, List.pairwise_iff_getElem.2 fun i j hi hj hij => secs_lt h j i hj hij⟩
    obtain ⟨i, hi, rfl⟩ := List.getElem_of_mem hs
    exact secs_get h i hi
  · rintro ⟨h1, h2⟩
    exact secs_of (fun i hi => h1 _ (List.getElem_mem hi)) (fun i hi => List.pairwise_iff_getElem.1 h2 i (i + 1) (by omega) hi (by omega))
theorem secs_with {l : List Sct} {a : Int} {b : List UInt8} (h : secsB l = true) (h0 : 0 ≤ a) (h1 : a < 6146) (hb : b.length = 128) : secsB (withS l a b) = true := by
  obtain ⟨k1, k2⟩ := (secs_iff l).1 h
  refine (secs_iff _).2 ⟨fun s hs => ?_, ?_⟩
  · rw [withS] at hs
    rcases List.mem_append.1 hs with hs | hs
    · exact k1 s (List.mem_filter.1 hs).1
    · rcases List.mem_cons.1 hs with rfl | hs
      · exact ⟨h0, h1, hb⟩
      · exact k1 s (List.mem_filter.1 hs).1
  · rw [withS, List.pairwise_append]
    refine ⟨k2.filter _, List.pairwise_cons.2 ⟨fun s hs => by simpa using (List.mem_filter.1 hs).2, k2.filter _⟩, fun x hx y hy => ?_⟩
    have e1 : x.a < a := by simpa using (List.mem_filter.1 hx).2
    rcases List.mem_cons.1 hy with rfl | hy
    · exact e1
    · have e2 : a < y.a := by simpa using (List.mem_filter.1 hy).2
      exact Int.lt_trans e1 e2
theorem find_filter {l : List Sct} (p q : Sct → Bool) (h : ∀ s ∈ l, q s = true → p s = true) : (l.filter p).find? q = l.find? q := by
  induction l with
  | nil => rfl
  | cons x l ih =>
    have ih' := ih fun s hs => h s (List.mem_cons_of_mem _ hs)
    rw [List.filter_cons]
    cases hq : q x
    · split
      · rw [List.find?_cons_of_neg (by simp [hq]), List.find?_cons_of_neg (by simp [hq]), ih']
      · rw [List.find?_cons_of_neg (by simp [hq]), ih']
    · rw [if_pos (h x (List.mem_cons_self ..) hq), List.find?_cons_of_pos hq, List.find?_cons_of_pos hq]
theorem find_none {l : List Sct} (p q : Sct → Bool) (h : ∀ s, p s = true → q s = false) : (l.filter p).find? q = none := by
  rw [List.find?_eq_none]
  intro s hs
  rw [h s (List.mem_filter.1 hs).2]
  simp
/-- What was written last at a place is there, and nothing else is turned. -/
theorem atS_with (l : List Sct) (a : Int) (b : List UInt8) (o : Int) : atS (withS l a b) o = if o = a then b else atS l o := by
  have e : ∀ x y : List Sct, (x ++ ⟨a, b⟩ :: y).find? (fun s => decide (s.a = o)) = (match x.find? (fun s => decide (s.a = o)) with | some s => some s | none => if a = o then some ⟨a, b⟩ else y.find? (fun s => decide (s.a = o))) := fun x y => by
    rw [List.find?_append]
    cases x.find? (fun s => decide (s.a = o)) with
    | some s => rfl
    | none =>
      rw [Option.none_or]
      by_cases h : a = o
      · rw [List.find?_cons_of_pos (by simpa using h), if_pos h]
      · rw [List.find?_cons_of_neg (by simpa using h), if_neg h]
  rw [atS, withS, e]
  by_cases h1 : o = a
  · subst h1
    rw [find_none (fun s => decide (s.a < o)) (fun s => decide (s.a = o)) (fun s hs => by simp at hs; simp; omega)]
    simp
  · rw [if_neg h1]
    by_cases h2 : o < a
    · rw [find_filter (l := l) (fun s => decide (s.a < a)) (fun s => decide (s.a = o)) (fun s _ hs => by simp at hs; simp; omega),
        find_none (l := l) (fun s => decide (a < s.a)) (fun s => decide (s.a = o)) (fun s hs => by simp at hs; simp; omega), if_neg (by omega), atS]
      cases l.find? (fun s => decide (s.a = o)) <;> rfl
    · rw [find_none (l := l) (fun s => decide (s.a < a)) (fun s => decide (s.a = o)) (fun s hs => by simp at hs; simp; omega),
        find_filter (l := l) (fun s => decide (a < s.a)) (fun s => decide (s.a = o)) (fun s _ hs => by simp at hs; simp; omega)]
      simp only
      rw [if_neg (by omega), atS]

/-! ### Places found -/
/-- i is where a stands, or would. -/
structure Pos (l : List Sct) (a : Int) (i : Nat) : Prop where
  le : i ≤ l.length
  lo : ∀ q (hq : q < l.length), q < i → l[q].a < a
  hi : ∀ q (hq : q < l.length), i ≤ q → a ≤ l[q].a
theorem take_lt {l : List Sct} {a : Int} {i : Nat} (h : Pos l a i) : l.filter (fun s => decide (s.a < a)) = l.take i := by
  have e := List.take_append_drop i l
  rw [← e, List.filter_append]
  rw [e]
  have h1 : (l.take i).filter (fun s => decide (s.a < a)) = l.take i := List.filter_eq_self.2 fun s hs => by
    obtain ⟨q, hq, rfl⟩ := List.getElem_of_mem hs
    rw [List.length_take] at hq
    simpa using h.lo q (by omega) (by omega)
  have h2 : (l.drop i).filter (fun s => decide (s.a < a)) = [] := List.filter_eq_nil_iff.2 fun s hs => by
    obtain ⟨q, hq, rfl⟩ := List.getElem_of_mem hs
    rw [List.length_drop] at hq
    simpa using h.hi (i + q) (by omega) (by omega)
  rw [h1, h2, List.append_nil]
theorem drop_gt {l : List Sct} {a : Int} {i : Nat} (h : Pos l a i) (hn : ∀ (hi : i < l.length), l[i].a ≠ a) : l.filter (fun s => decide (a < s.a)) = l.drop i ∨ ¬ secsB l = true := by
  by_cases hs : secsB l = true
  · left
    have e := List.take_append_drop i l
    rw [← e, List.filter_append]
    rw [e]
    have h1 : (l.take i).filter (fun s => decide (a < s.a)) = [] := List.filter_eq_nil_iff.2 fun s hs => by
      obtain ⟨q, hq, rfl⟩ := List.getElem_of_mem hs
      rw [List.length_take] at hq
      have := h.lo q (by omega) (by omega)
      simp; omega
    have h2 : (l.drop i).filter (fun s => decide (a < s.a)) = l.drop i := List.filter_eq_self.2 fun s hs' => by
      obtain ⟨q, hq, rfl⟩ := List.getElem_of_mem hs'
      rw [List.length_drop] at hq
      have h3 := h.hi i (by omega) (Nat.le_refl _)
      have h4 := hn (by omega)
      have h5 : l[i].a ≤ (l[i + q]'(by omega)).a := by
        rcases Nat.eq_zero_or_pos q with rfl | hq0
        · exact Int.le_refl _
        · exact Int.le_of_lt (secs_lt hs (i + q) i (by omega) (by omega))
      simp; omega
    rw [h1, h2, List.nil_append]
  · exact .inr hs
theorem withS_new {l : List Sct} {a : Int} {i : Nat} (hs : secsB l = true) (h : Pos l a i) (hn : ∀ (hi : i < l.length), l[i].a ≠ a) (b : List UInt8) : withS l a b = l.take i ++ ⟨a, b⟩ :: l.drop i := by
  rw [withS, take_lt h, (drop_gt h hn).resolve_right (by simp [hs])]
theorem withS_old {l : List Sct} {a : Int} {i : Nat} (hs : secsB l = true) (h : Pos l a i) (hi : i < l.length) (he : l[i].a = a) (b : List UInt8) : withS l a b = l.set i ⟨a, b⟩ := by
  have e := List.take_append_drop (i + 1) l
  have h3 : l.filter (fun s => decide (a < s.a)) = l.drop (i + 1) := by
    rw [← e, List.filter_append]
    rw [e]
    have h1 : (l.take (i + 1)).filter (fun s => decide (a < s.a)) = [] := List.filter_eq_nil_iff.2 fun s hs' => by
      obtain ⟨q, hq, rfl⟩ := List.getElem_of_mem hs'
      rw [List.length_take] at hq
      rcases Nat.lt_or_ge q i with h5 | h5
      · have := h.lo q (by omega) h5
        simp; omega
      · obtain rfl : q = i := by omega
        simp [he]
    have h2 : (l.drop (i + 1)).filter (fun s => decide (a < s.a)) = l.drop (i + 1) := List.filter_eq_self.2 fun s hs' => by
      obtain ⟨q, hq, rfl⟩ := List.getElem_of_mem hs'
      rw [List.length_drop] at hq
      have := secs_lt hs (i + 1 + q) i (by omega) (by omega)
      simp; omega
    rw [h1, h2, List.nil_append]
  rw [withS, take_lt h, h3, List.set_eq_take_append_cons_drop, if_pos hi]
theorem atS_old {l : List Sct} {a : Int} {i : Nat} (h : Pos l a i) (hi : i < l.length) (he : l[i].a = a) : atS l a = l[i].b := atS_some hi he fun j hj => by
  have := h.lo j (by omega) hj
  omega
theorem atS_new {l : List Sct} {a : Int} {i : Nat} (hs : secsB l = true) (h : Pos l a i) (hn : ∀ (hi : i < l.length), l[i].a ≠ a) : atS l a = List.replicate 128 0 := atS_none fun q hq => by
  rcases Nat.lt_or_ge q i with h5 | h5
  · have := h.lo q hq h5
    omega
  · have h3 := h.hi i (by omega) (Nat.le_refl _)
    have h4 := hn (by omega)
    have h6 : (l[i]'(by omega)).a ≤ l[q].a := by
      rcases Nat.lt_or_ge i q with h7 | h7
      · exact Int.le_of_lt (secs_lt hs q i hq h7)
      · obtain rfl : i = q := by omega
        exact Int.le_refl _
    omega
end Go.Proofs.Ytofnjdkfhboapaa
