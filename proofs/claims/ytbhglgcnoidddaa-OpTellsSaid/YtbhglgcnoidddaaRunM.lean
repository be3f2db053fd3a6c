/-
  The mathematics of rows and their bytes (of layer 4), as layer 9 needs it. No program in it.
-/
import Derived.Test.YtbhglgcnoidddaaBase
namespace Go.Proofs.Ytbhglgcnoidddaa
set_option linter.unusedVariables false

/-- A rune. -/
def isR (n : Int) : Bool := decide (0 ≤ n) && (decide (n ≤ 1114111) && (decide (n < 55296) || decide (57343 < n)))
theorem isR_iff (n : Int) : isR n = true ↔ 0 ≤ n ∧ n ≤ 1114111 ∧ (n < 55296 ∨ 57343 < n) := by simp [isR]

/-- What a row may hold. -/
def okN (n : Int) : Bool := n == -1 || isR n
theorem okN_iff (n : Int) : okN n = true ↔ n = -1 ∨ (0 ≤ n ∧ n ≤ 1114111 ∧ (n < 55296 ∨ 57343 < n)) := by
  simp only [okN, Bool.or_eq_true, beq_iff_eq, isR_iff]
/-- Check. -/
def chk (l : List Int) : Int := if 64 < l.length then 4 else if l.all okN then 0 else 8
theorem chk_many {l : List Int} (h : 64 < l.length) : chk l = 4 := by simp [chk, h]
theorem chk_bad {l : List Int} (h : ¬ 64 < l.length) (h2 : l.all okN = false) : chk l = 8 := by simp only [chk, if_neg h, h2]; rfl
theorem chk_ok {l : List Int} (h : ¬ 64 < l.length) (h2 : l.all okN = true) : chk l = 0 := by simp only [chk, if_neg h, h2]; rfl
theorem chk_zero {l : List Int} : chk l = 0 ↔ l.length ≤ 64 ∧ l.all okN = true := by
  unfold chk
  split
  · simp; omega
  · split
    · rename_i h1 h2; simp only [h2]; simp; omega
    · rename_i h1 h2; simp [h2]
theorem chk_range (l : List Int) : chk l = 0 ∨ chk l = 4 ∨ chk l = 8 := by
  unfold chk
  repeat' split
  all_goals simp

/-- A number's four bytes. -/
def four (n : Int) : List UInt8 := [UInt8.ofNat (n % 4294967296 / 16777216).toNat, UInt8.ofNat (n % 4294967296 / 65536 % 256).toNat, UInt8.ofNat (n % 4294967296 / 256 % 256).toNat, UInt8.ofNat (n % 4294967296 % 256).toNat]
def wide (l : List Int) : List UInt8 := l.flatMap four
theorem four_length (n : Int) : (four n).length = 4 := rfl
theorem wide_length (l : List Int) : (wide l).length = 4 * l.length := by
  induction l with
  | nil => rfl
  | cons a t ih => simp only [wide, List.flatMap_cons, List.length_append, List.length_cons] at *; rw [ih, four_length]; omega
theorem wide_snoc (l : List Int) (n : Int) : wide (l ++ [n]) = wide l ++ four n := by simp [wide]
/-- Put. -/
def putV (l : List Int) : List UInt8 := if chk l = 0 then wide l else []
theorem putV_le (l : List Int) : (putV l).length ≤ 256 := by
  unfold putV
  split
  · rename_i h
    rw [wide_length]
    have := (chk_zero.1 h).1
    omega
  · simp

/-- The number of four bytes. -/
def valU (a b c d : UInt8) : Int := 16777216 * (a.toNat : Int) + 65536 * (b.toNat : Int) + 256 * (c.toNat : Int) + (d.toNat : Int)
def sgn (u : Int) : Int := if u < 2147483648 then u else u - 4294967296
def val4 (a b c d : UInt8) : Int := sgn (valU a b c d)
theorem sgn_mod {u : Int} (h0 : 0 ≤ u) (h1 : u ≤ 4294967295) : sgn u % 4294967296 = u := by
  by_cases h : u < 2147483648
  · rw [sgn, if_pos h]; omega
  · rw [sgn, if_neg h]; omega
theorem sgn_of {u n : Int} (h0 : -2147483648 ≤ n) (h1 : n ≤ 2147483647) (h : u = n % 4294967296) : sgn u = n := by
  by_cases h : u < 2147483648
  · rw [sgn, if_pos h]; omega
  · rw [sgn, if_neg h]; omega
theorem valU_range (a b c d : UInt8) : 0 ≤ valU a b c d ∧ valU a b c d ≤ 4294967295 := by
  have h0 := a.toNat_lt
  have h1 := b.toNat_lt
  have h2 := c.toNat_lt
  have h3 := d.toNat_lt
  unfold valU
  omega
def rows : List UInt8 → List Int
  | a :: b :: c :: d :: t => val4 a b c d :: rows t
  | _ => []
theorem rows_length : ∀ (l : List UInt8), (rows l).length = l.length / 4
  | [] => rfl
  | [_] => by simp [rows]
  | [_, _] => by simp [rows]
  | [_, _, _] => by simp [rows]
  | a :: b :: c :: d :: t => by simp only [rows, List.length_cons, rows_length t]; omega
theorem u8_of (x : UInt8) (y : Int) (h : y = (x.toNat : Int)) : UInt8.ofNat y.toNat = x := by rw [h]; simp
theorem four_val (a b c d : UInt8) : four (val4 a b c d) = [a, b, c, d] := by
  have hr := valU_range a b c d
  have e : val4 a b c d % 4294967296 = valU a b c d := sgn_mod hr.1 hr.2
  unfold four
  rw [e]
  have h0 := a.toNat_lt
  have h1 := b.toNat_lt
  have h2 := c.toNat_lt
  have h3 := d.toNat_lt
  have h : valU a b c d = 16777216 * (a.toNat : Int) + 65536 * (b.toNat : Int) + 256 * (c.toNat : Int) + (d.toNat : Int) := rfl
  generalize valU a b c d = u at h
  rw [u8_of a _ (by omega), u8_of b _ (by omega), u8_of c _ (by omega), u8_of d _ (by omega)]
theorem val_four {n : Int} (h0 : -2147483648 ≤ n) (h1 : n ≤ 2147483647) : val4 (UInt8.ofNat (n % 4294967296 / 16777216).toNat) (UInt8.ofNat (n % 4294967296 / 65536 % 256).toNat) (UInt8.ofNat (n % 4294967296 / 256 % 256).toNat) (UInt8.ofNat (n % 4294967296 % 256).toNat) = n := by
  refine sgn_of h0 h1 ?_
  have hm0 : 0 ≤ n % 4294967296 := by omega
  have hm1 : n % 4294967296 < 4294967296 := by omega
  generalize n % 4294967296 = m at *
  simp only [valU, UInt8.toNat_ofNat']
  omega
theorem wide_rows : ∀ (l : List UInt8), l.length % 4 = 0 → wide (rows l) = l
  | [], _ => rfl
  | [_], h => by simp at h
  | [_, _], h => by simp at h
  | [_, _, _], h => by simp at h
  | a :: b :: c :: d :: t, h => by
    have := wide_rows t (by simp at h; omega)
    simp only [wide] at this
    simp only [rows, wide, List.flatMap_cons, four_val, this]
    rfl
theorem rows_wide : ∀ (l : List Int), (∀ n ∈ l, -2147483648 ≤ n ∧ n ≤ 2147483647) → rows (wide l) = l
  | [], _ => rfl
  | n :: t, h => by
    have := rows_wide t (fun x hx => h x (by simp [hx]))
    obtain ⟨h0, h1⟩ := h n (by simp)
    simp only [wide] at this
    simp only [wide, List.flatMap_cons, four, List.cons_append, List.nil_append, rows, val_four h0 h1, this]
/-- Get. -/
def getE (l : List UInt8) : Int := if 256 < l.length then 4 else if l.length % 4 = 0 ∧ (rows l).all okN = true then 0 else 8
def getV (l : List UInt8) : List Int := if getE l = 0 then rows l else []
theorem getE_many {l : List UInt8} (h : 256 < l.length) : getE l = 4 ∧ getV l = [] := by
  have : getE l = 4 := by simp [getE, h]
  exact ⟨this, by simp [getV, this]⟩
theorem getE_bad {l : List UInt8} (h : ¬ 256 < l.length) (h2 : ¬ (l.length % 4 = 0 ∧ (rows l).all okN = true)) : getE l = 8 ∧ getV l = [] := by
  have : getE l = 8 := by unfold getE; rw [if_neg h, if_neg h2]
  exact ⟨this, by simp [getV, this]⟩
theorem getE_ok {l : List UInt8} (h : ¬ 256 < l.length) (h1 : l.length % 4 = 0) (h2 : (rows l).all okN = true) : getE l = 0 ∧ getV l = rows l := by
  have : getE l = 0 := by unfold getE; rw [if_neg h, if_pos ⟨h1, h2⟩]
  exact ⟨this, by simp [getV, this]⟩
theorem get_chk {l : List UInt8} (h : ¬ 256 < l.length) (h1 : l.length % 4 = 0) : getE l = chk (rows l) ∧ getV l = if chk (rows l) = 0 then rows l else [] := by
  have hl : ¬ 64 < (rows l).length := by rw [rows_length]; omega
  have : getE l = chk (rows l) := by
    unfold getE
    rw [if_neg h]
    cases h2 : (rows l).all okN
    · rw [chk_bad hl h2, if_neg (by simp)]
    · rw [chk_ok hl h2, if_pos ⟨h1, rfl⟩]
  exact ⟨this, by simp only [getV, this]⟩
theorem getV_le (l : List UInt8) : (getV l).length ≤ 64 := by
  unfold getV
  split
  · rename_i h
    unfold getE at h
    split at h
    · simp at h
    · rw [rows_length]; omega
  · simp

/-- What is put is got. -/
theorem ok_range {l : List Int} (h : l.all okN = true) : ∀ n ∈ l, -2147483648 ≤ n ∧ n ≤ 2147483647 := by
  intro n hn
  have := (okN_iff n).1 (List.all_eq_true.1 h n hn)
  omega
theorem get_put {l : List Int} (h : chk l = 0) : getE (putV l) = 0 ∧ getV (putV l) = l ∧ (putV l).length = 4 * l.length := by
  obtain ⟨h1, h2⟩ := chk_zero.1 h
  have e : putV l = wide l := by simp [putV, h]
  have er := rows_wide l (ok_range h2)
  have hl := wide_length l
  rw [e]
  have := getE_ok (l := wide l) (by omega) (by omega) (by rw [er]; exact h2)
  exact ⟨this.1, by rw [this.2, er], hl⟩
theorem put_get {l : List UInt8} (h : getE l = 0) : chk (getV l) = 0 ∧ putV (getV l) = l := by
  have hb : ¬ 256 < l.length := fun hx => by rw [(getE_many hx).1] at h; cases h
  by_cases h2 : l.length % 4 = 0 ∧ (rows l).all okN = true
  · have hv := (getE_ok hb h2.1 h2.2).2
    have hc : chk (rows l) = 0 := chk_ok (by rw [rows_length]; omega) h2.2
    rw [hv]
    exact ⟨hc, by rw [putV, if_pos hc, wide_rows l h2.1]⟩
  · rw [(getE_bad hb h2).1] at h
    cases h
end Go.Proofs.Ytbhglgcnoidddaa
