/-
  The mathematics of layer 8: a frame as a list of bytes; what bytes are one; how long it is; what is turned, cut off or put behind. Nothing here speaks of the program.
-/
import Derived.Test.YthnjonabofabkaaDoorNumM
import Derived.Test.YthnjonabofabkaaDoorSumM
namespace Go.Proofs.YthnjonabofabkaaDoor
set_option linter.unusedVariables false

/-- How long the frame of so many bytes is. -/
def cl (n : Nat) : Nat := if 1 + (enc n).length + n + 3 ≤ 64 then 64 else if 1 + (enc n).length + n + 3 ≤ 256 then 256 else 1024
def hd8 (n : Nat) : List UInt8 := 181 :: enc n
def pad (n : Nat) : Nat := cl n - (1 + (enc n).length) - 3 - n
/-- A frame without its sum, and the frame. -/
def fr0 (l : List UInt8) : List UInt8 := hd8 l.length ++ l ++ List.replicate (pad l.length) 0
def fr (l : List UInt8) : List UInt8 := fr0 l ++ three (sm first (fr0 l))

theorem bl_small {n : Nat} (h : n < 65536) : bl n ≤ 2 := bl_le 2 n (by simpa using h)
theorem enc_small {n : Nat} (h : n ≤ 1000) : 1 ≤ (enc n).length ∧ (enc n).length ≤ 3 := by
  by_cases hn : n < 248
  · rw [enc_length_low hn]; omega
  · rw [enc_length_high (by omega)]
    have := bl_small (n := n) (by omega)
    omega
theorem cl_cases (n : Nat) : cl n = 64 ∨ cl n = 256 ∨ cl n = 1024 := by
  unfold cl
  split
  · exact .inl rfl
  · split
    · exact .inr (.inl rfl)
    · exact .inr (.inr rfl)
theorem cl_room {n : Nat} (h : n ≤ 1000) : 1 + (enc n).length + n + 3 ≤ cl n := by
  have := enc_small h
  unfold cl
  split
  · omega
  · split <;> omega
theorem cl_le (n : Nat) : cl n ≤ 1024 := by
  rcases cl_cases n with h | h | h <;> omega
theorem cl_ge (n : Nat) : 64 ≤ cl n := by
  rcases cl_cases n with h | h | h <;> omega
theorem hd8_length (n : Nat) : (hd8 n).length = 1 + (enc n).length := by simp [hd8]; omega
theorem pad_eq {n : Nat} (h : n ≤ 1000) : 1 + (enc n).length + n + pad n = cl n - 3 ∧ 3 ≤ cl n := by
  have := cl_room h
  unfold pad
  omega
theorem fr0_length {l : List UInt8} (h : l.length ≤ 1000) : (fr0 l).length = cl l.length - 3 := by
  have := pad_eq h
  simp only [fr0, List.length_append, hd8_length, List.length_replicate]
  omega
theorem fr_length {l : List UInt8} (h : l.length ≤ 1000) : (fr l).length = cl l.length := by
  have := pad_eq h
  rw [fr, List.length_append, fr0_length h, three_length]
  omega

/-- What the bytes tell as a body. -/
def toP : List UInt8 → Option (List UInt8)
  | [] => none
  | _ :: r => match getP r with
    | none => none
    | some (n, s) => if (r.drop s).length < n then none else some ((r.drop s).take n)
/-- Whose frame the bytes are. -/
def opP (b : List UInt8) : Option (List UInt8) := match toP b with
  | none => none
  | some l => if l.length ≤ 1000 ∧ fr l = b then some l else none

theorem lt_most {n : Nat} (h : n ≤ 1000) : n < 72057594037927936 := by omega
theorem fr_form (l : List UInt8) : ∃ t, fr l = 181 :: (enc l.length ++ (l ++ t)) := ⟨List.replicate (pad l.length) 0 ++ three (sm first (fr0 l)), by simp [fr, fr0, hd8]⟩
theorem toP_form {l t : List UInt8} (x : UInt8) (h : l.length ≤ 1000) : toP (x :: (enc l.length ++ (l ++ t))) = some l := by
  rw [toP, getP_enc (lt_most h)]
  simp
theorem opP_fr {l : List UInt8} (h : l.length ≤ 1000) : opP (fr l) = some l := by
  obtain ⟨t, ht⟩ := fr_form l
  have e : toP (fr l) = some l := by rw [ht]; exact toP_form _ h
  rw [opP, e]
  simp [h]
theorem opP_some {b l : List UInt8} (h : opP b = some l) : l.length ≤ 1000 ∧ fr l = b := by
  unfold opP at h
  split at h
  · cases h
  · split at h
    · rename_i hc
      injection h with h
      subst h
      exact hc
    · cases h
theorem opP_long {b : List UInt8} (h : opP b ≠ none) : b.length = 64 ∨ b.length = 256 ∨ b.length = 1024 := by
  match ho : opP b with
  | none => exact absurd ho h
  | some l =>
    obtain ⟨h1, h2⟩ := opP_some ho
    rw [← h2, fr_length h1]
    exact cl_cases _

/-- What begins with a frame's first bytes, its number among them, and is of another length, is no frame. -/
theorem opP_other {l b t : List UInt8} (h : l.length ≤ 1000) (hb : b = 181 :: (enc l.length ++ t)) (hl : b.length ≠ cl l.length) : opP b = none := by
  match ho : opP b with
  | none => rfl
  | some m =>
    exfalso
    obtain ⟨h1, h2⟩ := opP_some ho
    obtain ⟨u, hu⟩ := fr_form m
    rw [hu, hb] at h2
    injection h2 with _ h2
    have g1 := getP_enc (lt_most h1) (m ++ u)
    have g2 := getP_enc (lt_most h) t
    rw [h2, g2] at g1
    simp only [Option.some.injEq, Prod.mk.injEq] at g1
    have h3 := fr_length h1
    obtain ⟨_, h4⟩ := opP_some ho
    rw [h4, ← g1.1] at h3
    exact hl h3
theorem opP_more {l m : List UInt8} (h : l.length ≤ 1000) (hm : 0 < m.length) : opP (fr l ++ m) = none := by
  obtain ⟨t, ht⟩ := fr_form l
  refine opP_other (t := l ++ t ++ m) h (by rw [ht]; simp) ?_
  rw [List.length_append, fr_length h]
  omega
theorem opP_part {l : List UInt8} {k : Nat} (h : l.length ≤ 1000) (hk : k < cl l.length) : opP ((fr l).take k) = none := by
  match ho : opP ((fr l).take k) with
  | none => rfl
  | some m =>
    exfalso
    have hlen : ((fr l).take k).length = k := by rw [List.length_take, fr_length h]; omega
    have h64 := opP_long (b := (fr l).take k) (by rw [ho]; simp)
    have he := enc_small h
    obtain ⟨t, ht⟩ := fr_form l
    have : opP ((fr l).take k) = none := by
      refine opP_other (t := (l ++ t).take (k - 1 - (enc l.length).length)) h ?_ (by omega)
      rw [ht, show k = (k - 1) + 1 by omega, List.take_succ_cons, List.take_append, List.take_of_length_le (l := enc l.length) (by omega)]
      simp
    rw [ho] at this
    cases this

/-- The sum of a frame with its own sum is nothing. -/
theorem sm_fr (l : List UInt8) : sm first (fr l) = 0 := by
  rw [fr, sm_append]
  exact sm_three (sm_lt (by decide) _)
theorem opP_sum {b : List UInt8} (h : opP b ≠ none) : sm first b = 0 := by
  match ho : opP b with
  | none => exact absurd ho h
  | some l =>
    obtain ⟨_, h2⟩ := opP_some ho
    rw [← h2]
    exact sm_fr l
theorem opP_turned {l p r : List UInt8} {x y z d e f : UInt8} (h : fr l = p ++ [x, y, z] ++ r) (hd : ¬ (d = 0 ∧ e = 0 ∧ f = 0)) : opP (p ++ [x ^^^ d, y ^^^ e, z ^^^ f] ++ r) = none := by
  match ho : opP (p ++ [x ^^^ d, y ^^^ e, z ^^^ f] ++ r) with
  | none => rfl
  | some m =>
    exfalso
    have h1 := opP_sum (b := p ++ [x ^^^ d, y ^^^ e, z ^^^ f] ++ r) (by rw [ho]; simp)
    have h2 := sm_fr l
    rw [h] at h2
    exact sm_turned p r first x y z d e f hd (h1.trans h2.symm)
end Go.Proofs.YthnjonabofabkaaDoor
