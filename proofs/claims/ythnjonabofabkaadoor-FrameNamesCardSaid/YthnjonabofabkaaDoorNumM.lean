/-
  The plain mathematics of layer 2: a number's bytes, what bytes are a number's, and that bytes are in the order of numbers. Nothing here speaks of the program.
-/
import GoSem.Op.String
namespace Go.Proofs.YthnjonabofabkaaDoor
set_option linter.unusedVariables false

/-- How many digits to the base 256. -/
def bl (n : Nat) : Nat := if n = 0 then 0 else 1 + bl (n / 256)
termination_by n
decreasing_by omega

theorem bl_zero : bl 0 = 0 := by rw [bl]; simp
theorem bl_succ {n : Nat} (h : 0 < n) : bl n = 1 + bl (n / 256) := by
  rw [bl]; rw [if_neg (by omega)]
theorem bl_le : ∀ (k n : Nat), n < 256 ^ k → bl n ≤ k
  | 0, n, h => by
    have : n = 0 := by simpa using h
    subst this; rw [bl_zero]; omega
  | k + 1, n, h => by
    by_cases hn : n = 0
    · subst hn; rw [bl_zero]; omega
    · rw [bl_succ (by omega)]
      have := bl_le k (n / 256) (by rw [Nat.pow_succ] at h; omega)
      omega
theorem lt_bl (n : Nat) : n < 256 ^ bl n := by
  induction n using Nat.strongRecOn with
  | _ n ih =>
    by_cases hn : n = 0
    · subst hn; rw [bl_zero]; decide
    · rw [bl_succ (by omega)]
      have h := ih (n / 256) (by omega)
      rw [Nat.add_comm, Nat.pow_succ]; omega
theorem bl_pos {n : Nat} (h : 0 < n) : 0 < bl n := by rw [bl_succ h]; omega
theorem bl_big {n k : Nat} (h : 256 ^ k ≤ n) : k < bl n := by
  rcases Nat.lt_or_ge k (bl n) with h1 | h1
  · exact h1
  · have := lt_bl n
    have := Nat.pow_le_pow_right (show 0 < 256 by decide) h1
    omega
theorem bl_le7 {n : Nat} (h : n < 72057594037927936) : bl n ≤ 7 := bl_le 7 n (by simpa using h)

/-- The k lowest digits, the highest first. -/
def dg : Nat → Nat → List UInt8
  | 0, _ => []
  | k + 1, n => dg k (n / 256) ++ [UInt8.ofNat (n % 256)]
theorem dg_length : ∀ (k n : Nat), (dg k n).length = k
  | 0, _ => rfl
  | k + 1, n => by simp [dg, dg_length k]

def vl (l : List UInt8) : Nat := l.foldl (fun a b => a * 256 + b.toNat) 0
theorem vl_snoc (l : List UInt8) (b : UInt8) : vl (l ++ [b]) = vl l * 256 + b.toNat := by simp [vl]
theorem vl_lt (l : List UInt8) : vl l < 256 ^ l.length := by
  rw [← List.reverse_reverse l]
  generalize l.reverse = r
  induction r with
  | nil => decide
  | cons b r ih =>
    simp only [List.reverse_cons, vl_snoc, List.length_append, List.length_cons, List.length_nil, Nat.zero_add]
    have := b.toNat_lt
    rw [Nat.pow_succ]; omega
theorem ofNat_toNat {n : Nat} (h : n < 256) : (UInt8.ofNat n).toNat = n := by
  rw [UInt8.toNat_ofNat']; omega
theorem vl_dg : ∀ (k n : Nat), n < 256 ^ k → vl (dg k n) = n
  | 0, n, h => by
    have : n = 0 := by simpa using h
    subst this; rfl
  | k + 1, n, h => by
    rw [dg, vl_snoc, vl_dg k (n / 256) (by rw [Nat.pow_succ] at h; omega), ofNat_toNat (by omega)]
    omega
theorem dg_vl (l : List UInt8) : dg l.length (vl l) = l := by
  rw [← List.reverse_reverse l]
  generalize l.reverse = r
  induction r with
  | nil => rfl
  | cons b r ih =>
    simp only [List.reverse_cons, List.length_append, List.length_cons, List.length_nil, Nat.zero_add, vl_snoc]
    have hb := b.toNat_lt
    have e1 : (vl r.reverse * 256 + b.toNat) / 256 = vl r.reverse := by omega
    have e2 : (vl r.reverse * 256 + b.toNat) % 256 = b.toNat := by omega
    rw [dg, e1, e2, ih]
    simp

/-- A number's bytes. -/
def enc (n : Nat) : List UInt8 := if n < 248 then [UInt8.ofNat n] else UInt8.ofNat (247 + bl n) :: dg (bl n) n
theorem enc_low {n : Nat} (h : n < 248) : enc n = [UInt8.ofNat n] := by rw [enc, if_pos h]
theorem enc_high {n : Nat} (h : 248 ≤ n) : enc n = UInt8.ofNat (247 + bl n) :: dg (bl n) n := by rw [enc, if_neg (by omega)]
theorem enc_length_low {n : Nat} (h : n < 248) : (enc n).length = 1 := by rw [enc_low h]; rfl
theorem enc_length_high {n : Nat} (h : 248 ≤ n) : (enc n).length = 1 + bl n := by rw [enc_high h]; simp [dg_length]; omega
theorem enc_bounds {n : Nat} (h : n < 72057594037927936) : 1 ≤ (enc n).length ∧ (enc n).length ≤ 8 := by
  by_cases hn : n < 248
  · rw [enc_length_low hn]; omega
  · rw [enc_length_high (by omega)]; have := bl_le7 h; omega

def told (b : UInt8) : Nat := if b.toNat ≤ 247 then 1 else b.toNat - 246
theorem told_bounds (b : UInt8) : 1 ≤ told b ∧ told b ≤ 9 := by
  unfold told; have := b.toNat_lt; split <;> omega

/-- The number that the first byte and those behind it tell. -/
def rv : List UInt8 → Nat
  | [b] => b.toNat
  | l => vl l.tail
theorem rv_one (b : UInt8) : rv [b] = b.toNat := rfl
theorem rv_more (b c : UInt8) (l : List UInt8) : rv (b :: c :: l) = vl (c :: l) := rfl
theorem rv_enc {n : Nat} : rv (enc n) = n := by
  by_cases hn : n < 248
  · rw [enc_low hn, rv_one, ofNat_toNat (by omega)]
  · rw [enc_high (by omega)]
    have hb := bl_pos (show 0 < n by omega)
    have hl := dg_length (bl n) n
    have hv := vl_dg (bl n) n (lt_bl n)
    match hd : dg (bl n) n with
    | [] => rw [hd] at hl; simp at hl; omega
    | c :: l => rw [rv_more, ← hd, hv]
theorem told_enc {n : Nat} (h : n < 72057594037927936) : ∃ b r, enc n = b :: r ∧ told b = (enc n).length := by
  by_cases hn : n < 248
  · refine ⟨_, _, enc_low hn, ?_⟩
    rw [enc_length_low hn, told, ofNat_toNat (by omega), if_pos (by omega)]
  · refine ⟨_, _, enc_high (by omega), ?_⟩
    have := bl_le7 h
    have := bl_pos (show 0 < n by omega)
    rw [enc_length_high (by omega), told, ofNat_toNat (by omega), if_neg (by omega)]
    omega

def fits (n s : Nat) : Bool := decide (s ≤ 8) && decide ((enc n).length = s)
/-- What Get tells. -/
def getP : List UInt8 → Option (Nat × Nat)
  | [] => none
  | b :: r => if (b :: r).length < told b then none else if fits (rv ((b :: r).take (told b))) (told b) then some (rv ((b :: r).take (told b)), told b) else none

theorem getP_enc {n : Nat} (h : n < 72057594037927936) (r : List UInt8) : getP (enc n ++ r) = some (n, (enc n).length) := by
  obtain ⟨b, t, he, ht⟩ := told_enc h
  have hr : rv (enc n) = n := rv_enc
  have hb := enc_bounds h
  have e1 : enc n ++ r = b :: (t ++ r) := by rw [he]; rfl
  have e2 : (b :: (t ++ r)).take (told b) = enc n := by rw [← e1, ht, List.take_left]
  have e3 : (b :: (t ++ r)).length = (enc n).length + r.length := by rw [← e1, List.length_append]
  rw [e1, getP, e2, hr, e3, ht, if_neg (by omega)]
  simp [fits, hb.2]

theorem enc_rv (b : UInt8) (d : List UInt8) (hl : (b :: d).length = told b) (h8 : told b ≤ 8) (hs : (enc (rv (b :: d))).length = told b) : enc (rv (b :: d)) = b :: d ∧ rv (b :: d) < 72057594037927936 := by
  match d, hl with
  | [], hl =>
    have hb : b.toNat ≤ 247 := by
      unfold told at hl
      by_cases h : b.toNat ≤ 247
      · exact h
      · rw [if_neg h] at hl; simp at hl; omega
    rw [rv_one, enc_low (by omega)]
    exact ⟨by simp, by omega⟩
  | c :: l, hl =>
    have hv := vl_lt (c :: l)
    have hg := dg_vl (c :: l)
    rw [rv_more] at hs ⊢
    generalize hn : vl (c :: l) = n at *
    have hlen : (c :: l).length + 1 = told b := by simpa using hl
    have hbig : 248 ≤ n := by
      rcases Nat.lt_or_ge n 248 with h | h
      · rw [enc_length_low h] at hs; simp at hlen; omega
      · exact h
    rw [enc_length_high hbig] at hs
    have hbl : bl n = (c :: l).length := by omega
    have hb : b.toNat = 247 + bl n := by
      unfold told at hlen
      have : 1 ≤ (c :: l).length := by simp
      split at hlen <;> omega
    refine ⟨?_, ?_⟩
    · rw [enc_high hbig, hbl, hg, ← hbl, ← hb]; simp
    · have : 256 ^ (c :: l).length ≤ 256 ^ 7 := Nat.pow_le_pow_right (by decide) (by omega)
      omega

theorem getP_some {l : List UInt8} {n s : Nat} (h : getP l = some (n, s)) : n < 72057594037927936 ∧ s = (enc n).length ∧ s ≤ l.length ∧ l.take s = enc n := by
  match l with
  | [] => simp [getP] at h
  | b :: r =>
    rw [getP] at h
    by_cases h1 : (b :: r).length < told b
    · rw [if_pos h1] at h; cases h
    · rw [if_neg h1] at h
      have ht := told_bounds b
      obtain ⟨d, hd⟩ : ∃ d, (b :: r).take (told b) = b :: d := by
        obtain ⟨k, hk⟩ : ∃ k, told b = k + 1 := ⟨told b - 1, by omega⟩
        rw [hk]; exact ⟨_, rfl⟩
      have hdl : (b :: d).length = told b := by rw [← hd, List.length_take]; omega
      rw [hd] at h
      by_cases hf : fits (rv (b :: d)) (told b) = true
      · rw [if_pos hf] at h
        simp only [fits, Bool.and_eq_true, decide_eq_true_eq] at hf
        obtain ⟨he, hlt⟩ := enc_rv b d hdl hf.1 hf.2
        simp only [Option.some.injEq, Prod.mk.injEq] at h
        obtain ⟨rfl, rfl⟩ := h
        exact ⟨hlt, hf.2.symm, by omega, by rw [he, hd]⟩
      · rw [if_neg hf] at h; cases h

/-- Nothing that a number's bytes begin with, and that is shorter, is a number's bytes. -/
theorem getP_part {n k : Nat} (h : n < 72057594037927936) (hk : k < (enc n).length) : getP ((enc n).take k) = none := by
  match hg : getP ((enc n).take k) with
  | none => rfl
  | some (m, s) =>
    exfalso
    obtain ⟨hm, hs, hl, ht⟩ := getP_some hg
    have hlen : ((enc n).take k).length ≤ k := List.length_take_le _ _
    have e : enc n = enc m ++ (enc n).drop s := by
      rw [← ht, List.take_take, Nat.min_eq_left (by omega), List.take_append_drop]
    have h1 := getP_enc hm ((enc n).drop s)
    rw [← e] at h1
    have h2 := getP_enc h []
    rw [List.append_nil] at h2
    rw [h2] at h1
    simp only [Option.some.injEq, Prod.mk.injEq] at h1
    omega

theorem less_same : ∀ (p x y : List UInt8), Op.bytesLess (p ++ x) (p ++ y) = Op.bytesLess x y
  | [], _, _ => rfl
  | a :: p, x, y => by
    have := less_same p x y
    simp [Op.bytesLess, this]
theorem less_irrefl : ∀ (x : List UInt8), Op.bytesLess x x = false
  | [] => rfl
  | a :: x => by simp [Op.bytesLess, less_irrefl x]
theorem less_asymm : ∀ (x y : List UInt8), Op.bytesLess x y = true → Op.bytesLess y x = false
  | _, [], h => by simp [Op.bytesLess] at h
  | [], b :: y, _ => by simp [Op.bytesLess]
  | a :: x, b :: y, h => by
    simp only [Op.bytesLess, Bool.or_eq_true, Bool.and_eq_true, decide_eq_true_eq, beq_iff_eq] at h
    simp only [Op.bytesLess, Bool.or_eq_false_iff, Bool.and_eq_false_imp, decide_eq_false_iff_not, beq_iff_eq]
    rcases h with h | ⟨rfl, h⟩
    · simp only [UInt8.lt_iff_toNat_lt] at h ⊢
      exact ⟨by omega, fun e => by subst e; omega⟩
    · exact ⟨by simp, fun _ => less_asymm x y h⟩
theorem less_dg : ∀ (k n m : Nat) (x y : List UInt8), n < m → m < 256 ^ k → Op.bytesLess (dg k n ++ x) (dg k m ++ y) = true
  | 0, n, m, _, _, h, hm => by simp at hm; omega
  | k + 1, n, m, x, y, h, hm => by
    rw [dg, dg, List.append_assoc, List.append_assoc]
    by_cases hd : n / 256 = m / 256
    · rw [hd, less_same]
      have h1 : n % 256 < m % 256 := by omega
      simp only [List.cons_append, List.nil_append, Op.bytesLess, Bool.or_eq_true, decide_eq_true_eq, UInt8.lt_iff_toNat_lt]
      left
      rw [ofNat_toNat (by omega), ofNat_toNat (by omega)]; omega
    · exact less_dg k (n / 256) (m / 256) _ _ (by omega) (by rw [Nat.pow_succ] at hm; omega)
theorem bl_mono {n m : Nat} (h : n ≤ m) : bl n ≤ bl m := by
  have h1 := lt_bl m
  exact bl_le _ _ (by omega)
theorem less_enc {n m : Nat} (h : n < m) (hm : m < 72057594037927936) : Op.bytesLess (enc n) (enc m) = true := by
  by_cases h1 : m < 248
  · rw [enc_low h1, enc_low (by omega)]
    simp only [Op.bytesLess, Bool.or_eq_true, decide_eq_true_eq, UInt8.lt_iff_toNat_lt]
    left
    rw [ofNat_toNat (by omega), ofNat_toNat (by omega)]; exact h
  · have b7 := bl_le7 hm
    have b1 := bl_pos (show 0 < m by omega)
    rw [enc_high (n := m) (by omega)]
    by_cases h2 : n < 248
    · rw [enc_low h2]
      simp only [Op.bytesLess, Bool.or_eq_true, decide_eq_true_eq, UInt8.lt_iff_toNat_lt]
      left
      rw [ofNat_toNat (by omega), ofNat_toNat (by omega)]; omega
    · rw [enc_high (n := n) (by omega)]
      have hle := bl_mono (Nat.le_of_lt h)
      by_cases h3 : bl n = bl m
      · rw [h3]
        simp only [Op.bytesLess, Bool.or_eq_true, Bool.and_eq_true, beq_self_eq_true, true_and]
        right
        have := less_dg (bl m) n m [] [] h (lt_bl m)
        simpa using this
      · simp only [Op.bytesLess, Bool.or_eq_true, decide_eq_true_eq, UInt8.lt_iff_toNat_lt]
        left
        rw [ofNat_toNat (by omega), ofNat_toNat (by omega)]; omega
theorem less_iff {n m : Nat} (hn : n < 72057594037927936) (hm : m < 72057594037927936) : Op.bytesLess (enc n) (enc m) = decide (n < m) := by
  by_cases h : n < m
  · rw [less_enc h hm]; simp [h]
  · by_cases e : n = m
    · subst e; rw [less_irrefl]; simp
    · rw [less_asymm _ _ (less_enc (by omega) hn)]; simp [h]
end Go.Proofs.YthnjonabofabkaaDoor
