/-
  The plain mathematics of layer 5's bytes: a number as so many bytes, and back. Nothing here speaks of the program.
-/
namespace Go.Proofs.Ytbhglgcnoidddaa
set_option linter.unusedVariables false

/-- The k lowest digits, the highest first. -/
def dg : Nat → Nat → List UInt8
  | 0, _ => []
  | k + 1, n => dg k (n / 256) ++ [UInt8.ofNat (n % 256)]
theorem dg_length : ∀ (k n : Nat), (dg k n).length = k
  | 0, _ => rfl
  | k + 1, n => by simp [dg, dg_length k]

def vl (l : List UInt8) : Nat := l.foldl (fun a b => a * 256 + b.toNat) 0
theorem vl_snoc (l : List UInt8) (b : UInt8) : vl (l ++ [b]) = vl l * 256 + b.toNat := by simp [vl]
theorem vl_lt (l : List UInt8) : vl l < 256 ^ l.length := by
  rw [← List.reverse_reverse l]
  generalize l.reverse = r
  induction r with
  | nil => decide
  | cons b r ih =>
    simp only [List.reverse_cons, vl_snoc, List.length_append, List.length_cons, List.length_nil, Nat.zero_add]
    have := b.toNat_lt
    rw [Nat.pow_succ]; omega
theorem ofNat_toNat {n : Nat} (h : n < 256) : (UInt8.ofNat n).toNat = n := by
  rw [UInt8.toNat_ofNat']; omega
theorem vl_dg : ∀ (k n : Nat), n < 256 ^ k → vl (dg k n) = n
  | 0, n, h => by
    have : n = 0 := by simpa using h
    subst this; rfl
  | k + 1, n, h => by
    rw [dg, vl_snoc, vl_dg k (n / 256) (by rw [Nat.pow_succ] at h; omega), ofNat_toNat (by omega)]
    omega
theorem dg_vl (l : List UInt8) : dg l.length (vl l) = l := by
  rw [← List.reverse_reverse l]
  generalize l.reverse = r
  induction r with
  | nil => rfl
  | cons b r ih =>
    simp only [List.reverse_cons, List.length_append, List.length_cons, List.length_nil, Nat.zero_add, vl_snoc]
    have hb := b.toNat_lt
    have e1 : (vl r.reverse * 256 + b.toNat) / 256 = vl r.reverse := by omega
    have e2 : (vl r.reverse * 256 + b.toNat) % 256 = b.toNat := by omega
    rw [dg, e1, e2, ih]
    simp

/-- One digit more, from above. -/
theorem dg_up (x k j : Nat) (hj : j < k) : dg (j + 1) (x / 256 ^ (k - (j + 1))) = dg j (x / 256 ^ (k - j)) ++ [UInt8.ofNat (x / 256 ^ (k - (j + 1)) % 256)] := by
  have e : (k - (j + 1)).succ = k - j := by omega
  rw [dg, Nat.div_div_eq_div_mul, ← Nat.pow_succ, e]

/-- A handle's bytes, and an id's. -/
def hby (l c k : Nat) : List UInt8 := [UInt8.ofNat l] ++ dg 4 c ++ [UInt8.ofNat k]
def iby (l c k n : Nat) : List UInt8 := hby l c k ++ dg 7 n
theorem hby_length (l c k : Nat) : (hby l c k).length = 6 := by simp [hby, dg_length]
theorem iby_length (l c k n : Nat) : (iby l c k n).length = 13 := by simp [iby, hby_length, dg_length]
end Go.Proofs.Ytbhglgcnoidddaa
