/-
  Disks: mathematics: which may be, what is started, written and read.
-/
import Derived.Test.YtofnjdkfhboapaaMem
namespace Go.Proofs.Ytofnjdkfhboapaa
open Go.RowKit
set_option linter.unusedVariables false
set_option linter.unusedSimpArgs false

def InD (n : Int) : Prop := -9223372036854775808 ≤ n ∧ n ≤ 9223372036854775807
structure Sct where
  a : Int
  b : List UInt8
structure Dsk where
  se : List Sct
  st : Int
  lf : Int
  dd : Bool
structure Dkr (d : Dsk) : Prop where
  se : ∀ s ∈ d.se, InD s.a
  st : InD d.st
  lf : InD d.lf
theorem inD_0 : InD 0 := by simp [InD]
def zK : Dsk := ⟨[], 0, 0, false⟩
theorem zK_r : Dkr zK := ⟨fun s hs => (by cases hs), inD_0, inD_0⟩

/-! ### Which may be -/
def secAt (l : List Sct) (i : Nat) : Bool := match l[i]? with
  | none => true
  | some s => decide (0 ≤ s.a) && decide (s.a < 6146) && (match i with | 0 => true | i + 1 => decide ((match l[i]? with | some p => p.a | none => -1) < s.a)) && decide (s.b.length = 128)
def secsB (l : List Sct) : Bool := (List.range l.length).all (secAt l)
def tailD (d : Dsk) : Bool := decide (0 ≤ d.st) && decide (d.st < 2147483648) && decide (-1 ≤ d.lf) && decide (d.lf < 2147483648) && (!d.dd || decide (d.lf = 0))
def mayD (d : Dsk) : Bool := secsB d.se && tailD d
theorem secsB_no {l : List Sct} {i : Nat} (hi : i < l.length) (h : secAt l i = false) : secsB l = false := by
  rw [secsB, List.all_eq_false]
  exact ⟨i, List.mem_range.2 hi, by rw [h]; simp⟩
theorem secsB_yes {l : List Sct} (h : ∀ i, i < l.length → secAt l i = true) : secsB l = true := by
  rw [secsB, List.all_eq_true]
  exact fun i hi => h i (List.mem_range.1 hi)
theorem secsB_at {l : List Sct} (h : secsB l = true) (i : Nat) (hi : i < l.length) : secAt l i = true := List.all_eq_true.1 h i (List.mem_range.2 hi)
theorem secAt_0 {l : List Sct} (h : 0 < l.length) : secAt l 0 = (decide (0 ≤ l[0].a) && decide (l[0].a < 6146) && decide (l[0].b.length = 128)) := by
  rw [secAt, List.getElem?_eq_getElem h]
  simp
theorem secAt_s {l : List Sct} {i : Nat} (h : i + 1 < l.length) : secAt l (i + 1) = (decide (0 ≤ l[i + 1].a) && decide (l[i + 1].a < 6146) && decide (l[i].a < l[i + 1].a) && decide (l[i + 1].b.length = 128)) := by
  rw [secAt, List.getElem?_eq_getElem h]
  simp only
  rw [List.getElem?_eq_getElem (show i < l.length by omega)]
theorem secs_get {l : List Sct} (h : secsB l = true) (i : Nat) (hi : i < l.length) : 0 ≤ l[i].a ∧ l[i].a < 6146 ∧ l[i].b.length = 128 := by
  have h1 := secsB_at h i hi
  cases i with
  | zero => rw [secAt_0 hi] at h1; simp only [Bool.and_eq_true, decide_eq_true_eq] at h1; exact ⟨h1.1.1, h1.1.2, h1.2⟩
  | succ i => rw [secAt_s hi] at h1; simp only [Bool.and_eq_true, decide_eq_true_eq] at h1; exact ⟨h1.1.1.1, h1.1.1.2, h1.2⟩
theorem secs_step {l : List Sct} (h : secsB l = true) (i : Nat) (hi : i + 1 < l.length) : l[i].a < l[i + 1].a := by
  have h1 := secsB_at h (i + 1) hi
  rw [secAt_s hi] at h1
  simp only [Bool.and_eq_true, decide_eq_true_eq] at h1
  exact h1.1.2
theorem secs_lt {l : List Sct} (h : secsB l = true) : ∀ (j i : Nat) (hj : j < l.length) (hij : i < j), (l[i]'(by omega)).a < l[j].a
  | 0, i, _, hij => absurd hij (by omega)
  | j + 1, i, hj, hij => by
    have h1 := secs_step h j hj
    rcases Nat.lt_or_ge i j with h2 | h2
    · exact Int.lt_trans (secs_lt h j i (by omega) h2) h1
    · obtain rfl : i = j := by omega
      exact h1
/-- From below: what rises and is in bounds may be. -/
theorem secs_of {l : List Sct} (h1 : ∀ i (hi : i < l.length), 0 ≤ l[i].a ∧ l[i].a < 6146 ∧ l[i].b.length = 128) (h2 : ∀ i (hi : i + 1 < l.length), l[i].a < l[i + 1].a) : secsB l = true :=
  secsB_yes fun i hi => by
    cases i with
    | zero => have := h1 0 hi; rw [secAt_0 hi]; simp only [Bool.and_eq_true, decide_eq_true_eq]; exact ⟨⟨this.1, this.2.1⟩, this.2.2⟩
    | succ i => have := h1 (i + 1) hi; rw [secAt_s hi]; simp only [Bool.and_eq_true, decide_eq_true_eq]; exact ⟨⟨⟨this.1, this.2.1⟩, h2 i hi⟩, this.2.2⟩

/-! ### Compared -/
def sameS (l m : List Sct) : Bool := decide (l.map (fun s => (s.a, s.b)) = m.map (fun s => (s.a, s.b)))
def sameK (a b : Dsk) : Bool := sameS a.se b.se && (a.st == b.st) && (a.lf == b.lf) && (a.dd == b.dd)
theorem sameS_eq {l m : List Sct} (h : sameS l m = true) : l = m := by
  rw [sameS, decide_eq_true_eq] at h
  refine List.ext_getElem (by simpa using congrArg List.length h) fun i h1 h2 => ?_
  have e := congrArg (fun x => x[i]?) h
  simp [h1, h2] at e
  cases hl : l[i]; cases hm : m[i]
  simp_all
theorem sameS_self (l : List Sct) : sameS l l = true := by simp [sameS]
theorem sameK_self (a : Dsk) : sameK a a = true := by simp [sameK, sameS_self]
theorem sameK_eq {a b : Dsk} (h : sameK a b = true) : a = b := by
  simp only [sameK, Bool.and_eq_true, beq_iff_eq] at h
  obtain ⟨⟨⟨h1, h2⟩, h3⟩, h4⟩ := h
  cases a; cases b
  simp only at h1 h2 h3 h4
  rw [sameS_eq h1, h2, h3, h4]

/-! ### Started, written, read -/
def startedK (d : Dsk) (n : Int) : Dsk := ⟨d.se, d.st + 1, n, false⟩
def startE (d : Dsk) (n : Int) : Int := if mayD d = true then (if -1 ≤ n ∧ n < 2147483648 then (if d.st = 2147483647 then 9 else 0) else 2) else 8
def startV (d : Dsk) (n : Int) : Dsk := if startE d n = 0 then startedK d n else zK
def withS (l : List Sct) (a : Int) (b : List UInt8) : List Sct := l.filter (fun s => decide (s.a < a)) ++ ⟨a, b⟩ :: l.filter (fun s => decide (a < s.a))
def writtenK (d : Dsk) (a : Int) (b : List UInt8) : Dsk :=
  if d.dd = true ∨ d.lf = 0 then ⟨d.se, d.st, d.lf, true⟩ else ⟨withS d.se a b, d.st, if 0 < d.lf then d.lf - 1 else d.lf, d.dd⟩
def writeE (d : Dsk) (a : Int) (b : List UInt8) : Int := if mayD d = true then (if 0 ≤ a ∧ a < 6146 ∧ b.length = 128 then 0 else 2) else 8
def writeV (d : Dsk) (a : Int) (b : List UInt8) : Dsk := if writeE d a b = 0 then writtenK d a b else zK
def atS (l : List Sct) (a : Int) : List UInt8 := match l.find? (fun s => decide (s.a = a)) with | some s => s.b | none => List.replicate 128 0
def readE (d : Dsk) (a : Int) : Int := if mayD d = true then (if 0 ≤ a ∧ a < 6146 then 0 else 2) else 8
def readV (d : Dsk) (a : Int) : List UInt8 := if readE d a = 0 then atS d.se a else []
theorem atS_none {l : List Sct} {a : Int} (h : ∀ i (hi : i < l.length), l[i].a ≠ a) : atS l a = List.replicate 128 0 := by
  have : l.find? (fun s => decide (s.a = a)) = none := by
    rw [List.find?_eq_none]
    intro s hs
    obtain ⟨i, hi, rfl⟩ := List.getElem_of_mem hs
    simpa using h i hi
  rw [atS, this]
theorem atS_some {l : List Sct} {a : Int} {i : Nat} (hi : i < l.length) (h : l[i].a = a) (h0 : ∀ j (hj : j < i), (l[j]'(by omega)).a ≠ a) : atS l a = l[i].b := by
  have : l.find? (fun s => decide (s.a = a)) = some l[i] := by
    rw [List.find?_eq_some_iff_getElem]
    refine ⟨by simpa using h, i, hi, rfl, fun j hj => ?_⟩
    simpa using h0 j hj
  rw [atS, this]
theorem withS_len (l : List Sct) (a : Int) (b : List UInt8) : (withS l a b).length ≤ l.length + 1 ∨ True := .inr trivial
theorem dskr_se {l : List Sct} (h : ∀ s ∈ l, InD s.a) {a : Int} (ha : InD a) (b : List UInt8) : ∀ s ∈ withS l a b, InD s.a := by
  intro s hs
  rw [withS] at hs
  rcases List.mem_append.1 hs with hs | hs
  · exact h s (List.mem_filter.1 hs).1
  · rcases List.mem_cons.1 hs with rfl | hs
    · exact ha
    · exact h s (List.mem_filter.1 hs).1
end Go.Proofs.Ytofnjdkfhboapaa
