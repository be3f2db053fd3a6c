/-
  The mathematics of layer 3: one bit's turn of a sum is linear and loses nothing; eight of them behind a byte; sums of lists of bytes.
-/
namespace Go.Proofs.YthnjonabofabkaaDoor

/-- One bit's turn. -/
def tw (x : Nat) : Nat := (x <<< 1) ^^^ (bif x.testBit 23 then 25578747 else 0)
def t8 (x : Nat) : Nat := tw (tw (tw (tw (tw (tw (tw (tw x)))))))
/-- A sum with one more byte; with more bytes. -/
def wi (s : Nat) (b : UInt8) : Nat := t8 (s ^^^ b.toNat <<< 16)
def sm (s : Nat) (l : List UInt8) : Nat := l.foldl wi s
def first : Nat := 11994318

theorem bif_bit (c : Bool) (x i : Nat) : (bif c then x else 0).testBit i = (c && x.testBit i) := by cases c <;> simp
theorem tw_bit (x i : Nat) : (tw x).testBit i = ((decide (1 ≤ i) && x.testBit (i - 1)) ^^ (x.testBit 23 && Nat.testBit 25578747 i)) := by
  rw [tw, Nat.testBit_xor, Nat.testBit_shiftLeft, bif_bit]
theorem tw_xor (x y : Nat) : tw (x ^^^ y) = tw x ^^^ tw y := by
  apply Nat.eq_of_testBit_eq
  intro i
  rw [Nat.testBit_xor, tw_bit, tw_bit, tw_bit, Nat.testBit_xor, Nat.testBit_xor]
  cases decide (1 ≤ i) <;> cases x.testBit (i - 1) <;> cases y.testBit (i - 1) <;> cases x.testBit 23 <;> cases y.testBit 23 <;> cases Nat.testBit 25578747 i <;> rfl
theorem turn_high {i : Nat} (h : 24 < i) : Nat.testBit 25578747 i = false := by
  apply Nat.testBit_lt_two_pow
  exact Nat.lt_of_lt_of_le (show 25578747 < 2 ^ 25 by decide) (Nat.pow_le_pow_right (by decide) (by omega))
theorem bit_high {x n i : Nat} (hx : x < 2 ^ n) (h : n ≤ i) : x.testBit i = false :=
  Nat.testBit_lt_two_pow (Nat.lt_of_lt_of_le hx (Nat.pow_le_pow_right (by decide) h))
theorem tw_lt {x : Nat} (h : x < 2 ^ 24) : tw x < 2 ^ 24 := by
  apply Nat.lt_pow_two_of_testBit
  intro i hi
  rw [tw_bit]
  rcases Nat.eq_or_lt_of_le hi with e | hlt
  · subst e
    rw [show Nat.testBit 25578747 24 = true from by decide]
    simp
  · rw [turn_high hlt, bit_high h (show 24 ≤ i - 1 by omega)]
    simp
theorem tw_low {x : Nat} (h : x < 2 ^ 23) : tw x = 2 * x := by
  rw [tw, Nat.testBit_lt_two_pow h, Nat.shiftLeft_eq]
  simp
  omega
theorem tw_zero {x : Nat} (h : tw x = 0) : x = 0 := by
  have h0 := tw_bit x 0
  rw [h] at h0
  rw [show Nat.testBit 25578747 0 = true from by decide] at h0
  have hb : x.testBit 23 = false := by simpa using h0.symm
  rw [tw, hb, Nat.shiftLeft_eq] at h
  simp at h
  omega
theorem tw_0 : tw 0 = 0 := by decide

theorem t8_xor (x y : Nat) : t8 (x ^^^ y) = t8 x ^^^ t8 y := by simp only [t8, tw_xor]
theorem t8_lt {x : Nat} (h : x < 2 ^ 24) : t8 x < 2 ^ 24 := tw_lt (tw_lt (tw_lt (tw_lt (tw_lt (tw_lt (tw_lt (tw_lt h)))))))
theorem t8_zero {x : Nat} (h : t8 x = 0) : x = 0 := tw_zero (tw_zero (tw_zero (tw_zero (tw_zero (tw_zero (tw_zero (tw_zero h)))))))
theorem t8_low {x : Nat} (h : x < 2 ^ 16) : t8 x = 256 * x := by
  unfold t8
  rw [tw_low (x := x) (by omega), tw_low (x := 2 * x) (by omega), tw_low (x := 2 * (2 * x)) (by omega), tw_low (x := 2 * (2 * (2 * x))) (by omega), tw_low (x := 2 * (2 * (2 * (2 * x)))) (by omega),
    tw_low (x := 2 * (2 * (2 * (2 * (2 * x))))) (by omega), tw_low (x := 2 * (2 * (2 * (2 * (2 * (2 * x)))))) (by omega), tw_low (x := 2 * (2 * (2 * (2 * (2 * (2 * (2 * x))))))) (by omega)]
  omega

theorem xor_zero_eq {x y : Nat} (h : x ^^^ y = 0) : x = y := by
  have : x ^^^ y ^^^ y = 0 ^^^ y := by rw [h]
  rw [Nat.xor_assoc, Nat.xor_self] at this
  simpa using this
theorem t8_inj {x y : Nat} (h : t8 x = t8 y) : x = y := by
  apply xor_zero_eq
  apply t8_zero
  rw [t8_xor, h, Nat.xor_self]

theorem byte_lt (b : UInt8) : b.toNat <<< 16 < 2 ^ 24 := by
  have := b.toNat_lt
  rw [Nat.shiftLeft_eq]
  omega
theorem wi_lt {s : Nat} (h : s < 2 ^ 24) (b : UInt8) : wi s b < 2 ^ 24 := t8_lt (Nat.xor_lt_two_pow h (byte_lt b))
theorem wi_inj {s t : Nat} {b : UInt8} (h : wi s b = wi t b) : s = t := by
  have := t8_inj h
  have h2 : s ^^^ b.toNat <<< 16 ^^^ b.toNat <<< 16 = t ^^^ b.toNat <<< 16 ^^^ b.toNat <<< 16 := by rw [this]
  rw [Nat.xor_assoc, Nat.xor_assoc, Nat.xor_self] at h2
  simpa using h2
theorem xor_four (a b c d : Nat) : (a ^^^ b) ^^^ (c ^^^ d) = (a ^^^ c) ^^^ (b ^^^ d) := by
  rw [Nat.xor_assoc, Nat.xor_assoc, ← Nat.xor_assoc b, Nat.xor_comm b c, Nat.xor_assoc c]
theorem wi_xor (s t : Nat) (a b : UInt8) : wi (s ^^^ t) (a ^^^ b) = wi s a ^^^ wi t b := by
  unfold wi
  rw [← t8_xor, UInt8.toNat_xor, Nat.shiftLeft_xor_distrib, xor_four]

theorem sm_nil (s : Nat) : sm s [] = s := rfl
theorem sm_cons (s : Nat) (b : UInt8) (l : List UInt8) : sm s (b :: l) = sm (wi s b) l := rfl
theorem sm_append (s : Nat) (l m : List UInt8) : sm s (l ++ m) = sm (sm s l) m := by simp [sm]
theorem sm_snoc (s : Nat) (l : List UInt8) (b : UInt8) : sm s (l ++ [b]) = wi (sm s l) b := by simp [sm]
theorem sm_lt {s : Nat} (h : s < 2 ^ 24) : ∀ l : List UInt8, sm s l < 2 ^ 24
  | [] => h
  | b :: l => sm_lt (wi_lt h b) l
theorem sm_inj {l : List UInt8} : ∀ {s t : Nat}, sm s l = sm t l → s = t := by
  induction l with
  | nil => exact fun h => h
  | cons b l ih => exact fun h => wi_inj (ih h)

/-- The bytes of a sum. -/
def three (s : Nat) : List UInt8 := [UInt8.ofNat (s / 65536), UInt8.ofNat (s / 256), UInt8.ofNat s]
theorem three_length (s : Nat) : (three s).length = 3 := rfl
theorem xor_top (x k : Nat) : x ^^^ (x / 2 ^ k) <<< k = x % 2 ^ k := by
  apply Nat.eq_of_testBit_eq
  intro i
  rw [Nat.testBit_xor, Nat.testBit_shiftLeft, Nat.testBit_div_two_pow, Nat.testBit_mod_two_pow]
  by_cases h : k ≤ i
  · rw [show i - k + k = i by omega]
    simp [h, show ¬ i < k by omega]
  · simp [h, show i < k by omega]
theorem wi_top {s : Nat} (b : UInt8) (hb : b.toNat = s / 65536) : wi s b = 256 * (s % 65536) := by
  unfold wi
  rw [hb, show (65536 : Nat) = 2 ^ 16 from rfl, xor_top]
  exact t8_low (by omega)
theorem sm_three {s : Nat} (h : s < 2 ^ 24) : sm s (three s) = 0 := by
  unfold three
  rw [sm_cons, sm_cons, sm_cons, sm_nil]
  rw [wi_top (s := s) _ (by simp; omega)]
  rw [wi_top (s := 256 * (s % 65536)) _ (by simp; omega)]
  rw [wi_top (s := 256 * (256 * (s % 65536) % 65536)) _ (by simp; omega)]
  omega
theorem three_eq {s t : Nat} (ht : t < 2 ^ 24) : (three s = three t) ↔ s % 16777216 = t := by
  unfold three
  simp only [List.cons.injEq, and_true, ← UInt8.toNat_inj, UInt8.toNat_ofNat']
  omega

/-- Up to three bytes that are turned. -/
theorem turned_zero {d e f : UInt8} (h : wi (wi (wi 0 d) e) f = 0) : d = 0 ∧ e = 0 ∧ f = 0 := by
  have hd := d.toNat_lt
  have he := e.toNat_lt
  have hf := f.toNat_lt
  have h1 : wi (wi 0 d) e = f.toNat <<< 16 := xor_zero_eq (t8_zero h)
  have e1 : f.toNat <<< 16 = t8 (f.toNat <<< 8) := by
    rw [t8_low (by rw [Nat.shiftLeft_eq]; omega), Nat.shiftLeft_eq, Nat.shiftLeft_eq]; omega
  rw [e1] at h1
  have h2 : wi 0 d ^^^ e.toNat <<< 16 = f.toNat <<< 8 := t8_inj h1
  have h3 : wi 0 d = f.toNat <<< 8 ^^^ e.toNat <<< 16 := by
    rw [← h2, Nat.xor_assoc, Nat.xor_self]; simp
  have e2 : f.toNat <<< 8 ^^^ e.toNat <<< 16 = t8 (f.toNat ^^^ e.toNat <<< 8) := by
    rw [t8_xor, t8_low (x := f.toNat) (by omega), t8_low (x := e.toNat <<< 8) (by rw [Nat.shiftLeft_eq]; omega)]
    rw [show 256 * f.toNat = f.toNat <<< 8 by rw [Nat.shiftLeft_eq]; omega, show 256 * e.toNat <<< 8 = e.toNat <<< 16 by rw [Nat.shiftLeft_eq, Nat.shiftLeft_eq]; omega]
  rw [e2] at h3
  have h4 : 0 ^^^ d.toNat <<< 16 = f.toNat ^^^ e.toNat <<< 8 := t8_inj h3
  rw [Nat.zero_xor] at h4
  have h5 : f.toNat ^^^ e.toNat <<< 8 < 2 ^ 16 := Nat.xor_lt_two_pow (by omega) (by rw [Nat.shiftLeft_eq]; omega)
  have h6 : d.toNat = 0 := by rw [← h4, Nat.shiftLeft_eq] at h5; omega
  rw [h6] at h4
  have h7 : f.toNat = e.toNat <<< 8 := xor_zero_eq (by rw [← h4]; rfl)
  have h8 : e.toNat = 0 := by rw [Nat.shiftLeft_eq] at h7; omega
  rw [h8] at h7
  exact ⟨UInt8.toNat_inj.1 h6, UInt8.toNat_inj.1 h8, UInt8.toNat_inj.1 (by simpa using h7)⟩
theorem xor3 (s : Nat) (x y z d e f : UInt8) : sm s [x ^^^ d, y ^^^ e, z ^^^ f] = sm s [x, y, z] ^^^ wi (wi (wi 0 d) e) f := by
  simp only [sm_cons, sm_nil]
  rw [← wi_xor, ← wi_xor, ← wi_xor]
  simp
theorem sm_turned (l m : List UInt8) (s : Nat) (x y z d e f : UInt8) (h : ¬ (d = 0 ∧ e = 0 ∧ f = 0)) : sm s (l ++ [x ^^^ d, y ^^^ e, z ^^^ f] ++ m) ≠ sm s (l ++ [x, y, z] ++ m) := by
  intro he
  rw [sm_append, sm_append, sm_append, sm_append] at he
  have h1 := sm_inj he
  rw [xor3] at h1
  refine h (turned_zero ?_)
  have h2 : sm (sm s l) [x, y, z] ^^^ (sm (sm s l) [x, y, z] ^^^ wi (wi (wi 0 d) e) f) = sm (sm s l) [x, y, z] ^^^ sm (sm s l) [x, y, z] := by rw [h1]
  rw [← Nat.xor_assoc, Nat.xor_self] at h2
  simpa using h2

/-- Three texts of one length. -/
def xor3L : List UInt8 → List UInt8 → List UInt8 → List UInt8
  | a :: l, b :: m, c :: n => (a ^^^ b ^^^ c) :: xor3L l m n
  | _, _, _ => []
theorem sm_xor3 : ∀ (l m n : List UInt8) (s t u : Nat), l.length = m.length → l.length = n.length → sm (s ^^^ t ^^^ u) (xor3L l m n) = sm s l ^^^ sm t m ^^^ sm u n
  | [], [], [], s, t, u, _, _ => rfl
  | a :: l, b :: m, c :: n, s, t, u, h1, h2 => by
    simp only [xor3L, sm_cons]
    rw [wi_xor, wi_xor]
    exact sm_xor3 l m n _ _ _ (by simpa using h1) (by simpa using h2)
theorem sm_three_texts (l m n : List UInt8) (s : Nat) (h1 : l.length = m.length) (h2 : l.length = n.length) : sm s (xor3L l m n) = sm s l ^^^ sm s m ^^^ sm s n := by
  have := sm_xor3 l m n s s s h1 h2
  rwa [Nat.xor_self, Nat.zero_xor] at this
theorem xor3L_length : ∀ (l m n : List UInt8), l.length = m.length → l.length = n.length → (xor3L l m n).length = l.length
  | [], [], [], _, _ => rfl
  | a :: l, b :: m, c :: n, h1, h2 => by simp only [xor3L, List.length_cons]; rw [xor3L_length l m n (by simpa using h1) (by simpa using h2)]
theorem xor3L_get : ∀ (l m n : List UInt8) (i : Nat) (h1 : i < l.length) (h2 : i < m.length) (h3 : i < n.length), (xor3L l m n)[i]? = some (l[i] ^^^ m[i] ^^^ n[i])
  | a :: l, b :: m, c :: n, 0, _, _, _ => by simp [xor3L]
  | a :: l, b :: m, c :: n, i + 1, h1, h2, h3 => by
    simp only [xor3L, List.getElem?_cons_succ, List.getElem_cons_succ]
    exact xor3L_get l m n i (by simpa using h1) (by simpa using h2) (by simpa using h3)

/-- The reference's turn of one bit: the sum without the byte, and the byte. -/
def rt (r x : Nat) : Nat := r % 8388608 * 2 ^^^ (if r / 8388608 = x / 128 % 2 then 0 else 8801531)
theorem div_bit (x k : Nat) : decide (x / 2 ^ k % 2 = 1) = x.testBit k := by
  rw [Nat.testBit_eq_decide_div_mod_eq]
theorem rt_bit {r x : Nat} (hr : r < 2 ^ 24) (i : Nat) : (rt r x).testBit i = ((decide (1 ≤ i) && (decide (i < 24) && r.testBit (i - 1))) ^^ ((r.testBit 23 ^^ x.testBit 7) && Nat.testBit 8801531 i)) := by
  have e : (if r / 8388608 = x / 128 % 2 then 0 else 8801531) = (bif (r.testBit 23 ^^ x.testBit 7) then 8801531 else 0) := by
    rw [← div_bit, ← div_bit]
    have h1 : r / 8388608 < 2 := by omega
    have h2 : r / 2 ^ 23 % 2 = r / 8388608 := by omega
    rw [h2]
    have : x / 2 ^ 7 % 2 = x / 128 % 2 := rfl
    rw [this]
    by_cases a : r / 8388608 = 1 <;> by_cases b : x / 128 % 2 = 1 <;> simp [a, b] <;> omega
  rw [rt, e, Nat.testBit_xor, bif_bit, show r % 8388608 * 2 = (r % 2 ^ 23) * 2 ^ 1 by omega, Nat.testBit_mul_two_pow, Nat.testBit_mod_two_pow]
  congr 1
  by_cases a : 1 ≤ i
  · have : (i - 1 < 23) = (i < 24) := by apply propext; omega
    simp [a, this]
  · simp [a]
theorem low_bit (x i : Nat) : ((x % 256) <<< 16).testBit i = (decide (16 ≤ i) && (decide (i < 24) && x.testBit (i - 16))) := by
  rw [Nat.testBit_shiftLeft, show x % 256 = x % 2 ^ 8 from rfl, Nat.testBit_mod_two_pow]
  by_cases a : 16 ≤ i
  · have : (i - 16 < 8) = (i < 24) := by apply propext; omega
    simp [a, this]
  · simp [a]
theorem turn_bits (i : Nat) : Nat.testBit 25578747 i = (Nat.testBit 8801531 i ^^ decide (i = 24)) := by
  rw [show (25578747 : Nat) = 8801531 ^^^ 2 ^ 24 from by decide, Nat.testBit_xor, Nat.testBit_two_pow]
  simp [eq_comm]
theorem low_high {i : Nat} (h : 24 ≤ i) : Nat.testBit 8801531 i = false := bit_high (n := 24) (by decide) h
theorem rt_tw {r x : Nat} (hr : r < 2 ^ 24) : tw (r ^^^ (x % 256) <<< 16) = rt r x ^^^ (2 * x % 256) <<< 16 := by
  apply Nat.eq_of_testBit_eq
  intro i
  rw [tw_bit, Nat.testBit_xor, Nat.testBit_xor, Nat.testBit_xor, rt_bit hr, low_bit, low_bit, low_bit, turn_bits]
  have h2 : ∀ j, (2 * x).testBit j = (decide (1 ≤ j) && x.testBit (j - 1)) := by
    intro j
    rw [show 2 * x = x * 2 ^ 1 by omega, Nat.testBit_mul_two_pow]
  rw [h2]
  by_cases a : i < 24
  · rw [show decide (i = 24) = false by simp; omega]
    by_cases b : 17 ≤ i
    · rw [show i - 1 - 16 = i - 16 - 1 by omega]
      simp [a, show 1 ≤ i by omega, show 16 ≤ i - 1 by omega, show i - 1 < 24 by omega, show 16 ≤ i by omega, show 1 ≤ i - 16 by omega]
      cases r.testBit (i - 1) <;> cases x.testBit (i - 16 - 1) <;> cases r.testBit 23 <;> cases x.testBit 7 <;> cases Nat.testBit 8801531 i <;> rfl
    · by_cases c : 1 ≤ i
      · have d : ¬ (16 ≤ i - 1) := by omega
        have e : (decide (16 ≤ i) && (decide (i < 24) && (decide (1 ≤ i - 16) && x.testBit (i - 16 - 1)))) = false := by
          have : ¬ 1 ≤ i - 16 := by omega
          simp [this]
        rw [e]
        simp [a, c, d]
      · simp [show i = 0 by omega]
  · have hl := low_high (i := i) (by omega)
    rw [hl]
    by_cases b : i = 24
    · subst b
      simp
    · have : r.testBit (i - 1) = false := bit_high hr (by omega)
      simp [a, b, this, show ¬ i - 1 < 24 by omega]
theorem rt_lt {r x : Nat} : rt r x < 2 ^ 24 := by
  unfold rt
  apply Nat.xor_lt_two_pow
  · omega
  · split <;> decide

/-- Behind k of the reference's turns. -/
def rk : Nat → Nat → Nat → Nat
  | r, _, 0 => r
  | r, x, k + 1 => rt (rk r x k) (x * 2 ^ k)
def tk : Nat → Nat → Nat
  | x, 0 => x
  | x, k + 1 => tw (tk x k)
theorem t8_tk (x : Nat) : t8 x = tk x 8 := rfl
theorem rk_lt {r : Nat} (x : Nat) (hr : r < 2 ^ 24) : ∀ k, rk r x k < 2 ^ 24
  | 0 => hr
  | _ + 1 => rt_lt
theorem tk_lt {r : Nat} (hr : r < 2 ^ 24) : ∀ k, tk r k < 2 ^ 24
  | 0 => hr
  | k + 1 => tw_lt (tk_lt hr k)
theorem rk_tk {r : Nat} (x : Nat) (hr : r < 2 ^ 24) (hx : x < 256) : ∀ k, tk (r ^^^ x <<< 16) k = rk r x k ^^^ (x * 2 ^ k % 256) <<< 16
  | 0 => by simp [tk, rk, Nat.mod_eq_of_lt hx]
  | k + 1 => by
    rw [tk, rk_tk x hr hx k, rt_tw (rk_lt x hr k), rk, Nat.pow_succ]
    congr 3
    rw [Nat.mul_comm 2, Nat.mul_assoc]
theorem rk_wi {r : Nat} (b : UInt8) (hr : r < 2 ^ 24) : rk r b.toNat 8 = wi r b := by
  unfold wi
  rw [t8_tk, rk_tk _ hr b.toNat_lt 8, show b.toNat * 2 ^ 8 % 256 = 0 by omega]
  simp
end Go.Proofs.YthnjonabofabkaaDoor
