/-
  The mathematics of layer 4: runes and their bytes (UTF-8), texts and their runes, rows and their bytes, blanks. No program in it.
-/
import Derived.Lib.DecodeN
import Derived.Lib.RuneBytes
import Derived.Shelf.Strings.Prefix
namespace Go.Proofs.Ytikcknngcdjnhaa
set_option linter.unusedVariables false

/-- A rune. -/
def isR (n : Int) : Bool := decide (0 ≤ n) && (decide (n ≤ 1114111) && (decide (n < 55296) || decide (57343 < n)))
theorem isR_iff (n : Int) : isR n = true ↔ 0 ≤ n ∧ n ≤ 1114111 ∧ (n < 55296 ∨ 57343 < n) := by simp [isR]
/-- A rune's bytes. -/
def bts (n : Int) : List UInt8 := Lib.encodeRune n

theorem u8_eq {x : Int} {b : UInt8} (h0 : 0 ≤ x) (h1 : x < 256) : x.toNat.toUInt8 = b ↔ x = (b.toNat : Int) := by
  constructor
  · rintro rfl
    simp only [Nat.toUInt8, UInt8.toNat_ofNat']
    omega
  · intro h
    rw [h]
    simp
theorem bts_one {m : Nat} (h : m < 128) : bts m = [m.toUInt8] := by
  unfold bts Lib.encodeRune
  rw [Lib.encodeRuneZ_one (by omega) (by omega)]
  simp
theorem bts_two {m : Nat} (h0 : 128 ≤ m) (h1 : m < 2048) (a b : UInt8) : bts m = [a, b] ↔ 192 + m / 64 = a.toNat ∧ 128 + m % 64 = b.toNat := by
  unfold bts Lib.encodeRune
  rw [Lib.encodeRuneZ_two (by omega) (by omega)]
  simp only [List.map_cons, List.map_nil, List.cons.injEq, and_true]
  rw [u8_eq (by omega) (by omega), u8_eq (by omega) (by omega)]
  omega
theorem bts_three {m : Nat} (h : (2048 ≤ m ∧ m < 55296) ∨ (57343 < m ∧ m < 65536)) (a b c : UInt8) : bts m = [a, b, c] ↔ 224 + m / 4096 = a.toNat ∧ 128 + m / 64 % 64 = b.toNat ∧ 128 + m % 64 = c.toNat := by
  unfold bts Lib.encodeRune
  rw [Lib.encodeRuneZ_three (by omega)]
  simp only [List.map_cons, List.map_nil, List.cons.injEq, and_true]
  rw [u8_eq (by omega) (by omega), u8_eq (by omega) (by omega), u8_eq (by omega) (by omega)]
  omega
theorem bts_four {m : Nat} (h0 : 65536 ≤ m) (h1 : m ≤ 1114111) (a b c d : UInt8) : bts m = [a, b, c, d] ↔ 240 + m / 262144 = a.toNat ∧ 128 + m / 4096 % 64 = b.toNat ∧ 128 + m / 64 % 64 = c.toNat ∧ 128 + m % 64 = d.toNat := by
  unfold bts Lib.encodeRune
  rw [Lib.encodeRuneZ_four (by omega) (by omega)]
  simp only [List.map_cons, List.map_nil, List.cons.injEq, and_true]
  rw [u8_eq (by omega) (by omega), u8_eq (by omega) (by omega), u8_eq (by omega) (by omega), u8_eq (by omega) (by omega)]
  omega
theorem bts_length (n : Int) : 1 ≤ (bts n).length ∧ (bts n).length ≤ 4 := by
  have := Lib.encodeRuneZ_length n
  simpa [bts, Lib.encodeRune] using this
/-- How many bytes. -/
theorem bts_len2 {m : Nat} (h0 : 128 ≤ m) (h1 : m < 2048) : (bts m).length = 2 := by
  unfold bts Lib.encodeRune; rw [Lib.encodeRuneZ_two (by omega) (by omega)]; rfl
theorem bts_len3 {m : Nat} (h : (2048 ≤ m ∧ m < 55296) ∨ (57343 < m ∧ m < 65536)) : (bts m).length = 3 := by
  unfold bts Lib.encodeRune; rw [Lib.encodeRuneZ_three (by omega)]; rfl
theorem bts_len4 {m : Nat} (h0 : 65536 ≤ m) (h1 : m ≤ 1114111) : (bts m).length = 4 := by
  unfold bts Lib.encodeRune; rw [Lib.encodeRuneZ_four (by omega) (by omega)]; rfl
theorem bts_len1 {m : Nat} (h : m < 128) : (bts m).length = 1 := by rw [bts_one h]; rfl

/-- A text's byte, 0 beyond its end. -/
def g (l : List UInt8) (i : Nat) : Nat := (l.getD i 0).toNat
/-- What a range over a text tells of its beginning. -/
def dec (l : List UInt8) : Nat × Nat := Lib.decodeN l.length (g l 0) (g l 1) (g l 2) (g l 3)
/-- A stand-in: the text has not its bytes. -/
def bad (l : List UInt8) : Bool := (dec l).1 == 65533 && !Lib.hasPrefix l [239, 191, 189]
/-- The rune that a text begins with, and how many bytes it has. -/
def fst (l : List UInt8) : Option (Int × Nat) := if bad l then none else some (((dec l).1 : Int), (dec l).2)

theorem dec_low {n b0 b1 b2 b3 : Nat} (h : b0 < 128) : Lib.decodeN n b0 b1 b2 b3 = (b0, 1) := by
  unfold Lib.decodeN
  rw [if_pos h]
theorem dec_none {n b0 b1 b2 b3 : Nat} (h : 128 ≤ b0) (h2 : b0 < 192 ∨ 248 ≤ b0) (h3 : b0 < 256) : Lib.decodeN n b0 b1 b2 b3 = (65533, 1) := by
  unfold Lib.decodeN
  repeat' split
  all_goals first | (exfalso; omega) | rfl
theorem dec_two {n b0 b1 b2 b3 : Nat} (h : 192 ≤ b0) (h2 : b0 < 224) : Lib.decodeN n b0 b1 b2 b3 = if 1 < n ∧ b1 / 64 = 2 ∧ 128 ≤ 64 * (b0 - 192) + b1 % 64 then (64 * (b0 - 192) + b1 % 64, 2) else (65533, 1) := by
  have e : b0 % 32 * 64 + b1 % 64 = 64 * (b0 - 192) + b1 % 64 := by omega
  unfold Lib.decodeN
  rw [e]
  repeat' split
  all_goals first | (exfalso; omega) | rfl
theorem dec_three {n b0 b1 b2 b3 : Nat} (h : 224 ≤ b0) (h2 : b0 < 240) : Lib.decodeN n b0 b1 b2 b3 =
    if 2 < n ∧ b1 / 64 = 2 ∧ b2 / 64 = 2 ∧ 2048 ≤ 64 * (64 * (b0 - 224) + b1 % 64) + b2 % 64 ∧ (64 * (64 * (b0 - 224) + b1 % 64) + b2 % 64 < 55296 ∨ 57344 ≤ 64 * (64 * (b0 - 224) + b1 % 64) + b2 % 64)
    then (64 * (64 * (b0 - 224) + b1 % 64) + b2 % 64, 3) else (65533, 1) := by
  have e : b0 % 16 * 4096 + b1 % 64 * 64 + b2 % 64 = 64 * (64 * (b0 - 224) + b1 % 64) + b2 % 64 := by omega
  unfold Lib.decodeN
  rw [e]
  repeat' split
  all_goals first | (exfalso; omega) | rfl
theorem dec_four {n b0 b1 b2 b3 : Nat} (h : 240 ≤ b0) (h2 : b0 < 248) : Lib.decodeN n b0 b1 b2 b3 =
    if 3 < n ∧ b1 / 64 = 2 ∧ b2 / 64 = 2 ∧ b3 / 64 = 2 ∧ 65536 ≤ 64 * (64 * (64 * (b0 - 240) + b1 % 64) + b2 % 64) + b3 % 64 ∧ 64 * (64 * (64 * (b0 - 240) + b1 % 64) + b2 % 64) + b3 % 64 ≤ 1114111
    then (64 * (64 * (64 * (b0 - 240) + b1 % 64) + b2 % 64) + b3 % 64, 4) else (65533, 1) := by
  have e : b0 % 8 * 262144 + b1 % 64 * 4096 + b2 % 64 * 64 + b3 % 64 = 64 * (64 * (64 * (b0 - 240) + b1 % 64) + b2 % 64) + b3 % 64 := by omega
  unfold Lib.decodeN
  rw [e]
  repeat' split
  all_goals first | (exfalso; omega) | rfl

/-- The document's own reading: how many bytes the first one tells, and its bits. -/
def hd (c : Nat) : Nat × Nat := if c < 128 then (1, c) else if 192 ≤ c ∧ c < 224 then (2, c - 192) else if 224 ≤ c ∧ c < 240 then (3, c - 224) else if 240 ≤ c ∧ c < 248 then (4, c - 240) else (0, 0)
def fold (l : List UInt8) (n : Nat) : Nat → Nat
  | 0 => n
  | i + 1 => 64 * fold l n i + g l (i + 1) % 64
def rfst (l : List UInt8) : Option (Int × Nat) :=
  if (hd (g l 0)).1 = 0 ∨ l.length < (hd (g l 0)).1 then none
  else if isR (fold l (hd (g l 0)).2 ((hd (g l 0)).1 - 1) : Nat) = true ∧ bts (fold l (hd (g l 0)).2 ((hd (g l 0)).1 - 1) : Nat) = l.take (hd (g l 0)).1 then some ((fold l (hd (g l 0)).2 ((hd (g l 0)).1 - 1) : Nat), (hd (g l 0)).1) else none

theorem g_lt (l : List UInt8) (i : Nat) : g l i < 256 := (l.getD i 0).toNat_lt
theorem prefix_iff (l : List UInt8) : Lib.hasPrefix l [239, 191, 189] = true ↔ 2 < l.length ∧ g l 0 = 239 ∧ g l 1 = 191 ∧ g l 2 = 189 := by
  have h (x y : UInt8) : x = y ↔ x.toNat = y.toNat := UInt8.toNat_inj.symm
  match l with
  | [] => simp [Lib.hasPrefix]
  | [a] => simp [Lib.hasPrefix]
  | [a, b] => simp [Lib.hasPrefix]
  | a :: b :: c :: t =>
    simp [Lib.hasPrefix, g, h]
    omega

theorem take_two (l : List UInt8) (h : 1 < l.length) : l.take 2 = [l.getD 0 0, l.getD 1 0] := by
  match l, h with
  | a :: b :: t, _ => rfl
theorem take_three (l : List UInt8) (h : 2 < l.length) : l.take 3 = [l.getD 0 0, l.getD 1 0, l.getD 2 0] := by
  match l, h with
  | a :: b :: c :: t, _ => rfl
theorem take_four (l : List UInt8) (h : 3 < l.length) : l.take 4 = [l.getD 0 0, l.getD 1 0, l.getD 2 0, l.getD 3 0] := by
  match l, h with
  | a :: b :: c :: d :: t, _ => rfl

theorem fst_none {l : List UInt8} (h1 : (dec l).1 = 65533) (h2 : ¬ Lib.hasPrefix l [239, 191, 189] = true) : fst l = none := by
  simp [fst, bad, h1, h2]
theorem fst_some_of {l : List UInt8} (h : (dec l).1 ≠ 65533 ∨ Lib.hasPrefix l [239, 191, 189] = true) : fst l = some (((dec l).1 : Int), (dec l).2) := by
  rcases h with h | h <;> simp [fst, bad, h]

/-- Both readings are one. -/
theorem rfst_eq (l : List UInt8) (h : l ≠ []) : rfst l = fst l := by
  have hl : 0 < l.length := by
    rcases Nat.eq_zero_or_pos l.length with h0 | h0
    · exact absurd (List.eq_nil_of_length_eq_zero h0) h
    · exact h0
  have h0 := g_lt l 0
  have h1 := g_lt l 1
  have h2 := g_lt l 2
  have h3 := g_lt l 3
  have hp := prefix_iff l
  by_cases c0 : g l 0 < 128
  · have hh : hd (g l 0) = (1, g l 0) := by simp [hd, c0]
    have hd1 : dec l = (g l 0, 1) := dec_low c0
    rw [fst_some_of (by left; rw [hd1]; simp only; omega), hd1]
    simp only [rfst, hh, Nat.sub_self, fold]
    rw [if_neg (by omega), if_pos]
    refine ⟨(isR_iff _).2 (by omega), ?_⟩
    rw [bts_one c0]
    match l, hl with
    | a :: t, _ => simp [g]
  by_cases c1 : g l 0 < 192 ∨ 248 ≤ g l 0
  · have hh : hd (g l 0) = (0, 0) := by
      unfold hd
      repeat' split
      all_goals first | (exfalso; omega) | rfl
    have hd1 : dec l = (65533, 1) := dec_none (by omega) c1 h0
    rw [fst_none (by rw [hd1]) (by rw [hp]; omega)]
    simp [rfst, hh]
  by_cases c2 : g l 0 < 224
  · have hh : hd (g l 0) = (2, g l 0 - 192) := by
      unfold hd
      repeat' split
      all_goals first | (exfalso; omega) | rfl
    have hd1 : dec l = _ := dec_two (by omega) c2
    simp only [rfst, hh, Nat.reduceSub, fold, Nat.zero_add]
    by_cases hlen : 1 < l.length
    · rw [if_neg (by omega)]
      have ha : g l 0 = (l.getD 0 0).toNat := rfl
      have hb : g l 1 = (l.getD 1 0).toNat := rfl
      by_cases hm : 128 ≤ 64 * (g l 0 - 192) + g l 1 % 64
      · rw [take_two l hlen]
        have hbt := bts_two (m := 64 * (g l 0 - 192) + g l 1 % 64) hm (by omega)
        by_cases hk : g l 1 / 64 = 2
        · rw [if_pos ⟨hlen, hk, hm⟩] at hd1
          rw [if_pos ⟨(isR_iff _).2 (by omega), (hbt _ _).2 (by omega)⟩, fst_some_of (by left; rw [hd1]; simp only; omega), hd1]
        · rw [if_neg (by omega)] at hd1
          rw [if_neg (by rintro ⟨_, hx⟩; have := (hbt _ _).1 hx; omega), fst_none (by rw [hd1]) (by rw [hp]; omega)]
      · rw [if_neg (by omega)] at hd1
        have hb1 := bts_len1 (m := 64 * (g l 0 - 192) + g l 1 % 64) (by omega)
        rw [if_neg (by rintro ⟨_, hx⟩; rw [hx, take_two l hlen] at hb1; simp at hb1), fst_none (by rw [hd1]) (by rw [hp]; omega)]
    · rw [if_neg (by omega)] at hd1
      rw [if_pos (by omega), fst_none (by rw [hd1]) (by rw [hp]; omega)]
  by_cases c3 : g l 0 < 240
  · have hh : hd (g l 0) = (3, g l 0 - 224) := by
      unfold hd
      repeat' split
      all_goals first | (exfalso; omega) | rfl
    have hd1 : dec l = _ := dec_three (by omega) c3
    simp only [rfst, hh, Nat.reduceSub, fold, Nat.zero_add, Nat.reduceAdd]
    by_cases hlen : 2 < l.length
    · rw [if_neg (by omega)]
      have ha : g l 0 = (l.getD 0 0).toNat := rfl
      have hb : g l 1 = (l.getD 1 0).toNat := rfl
      have hc : g l 2 = (l.getD 2 0).toNat := rfl
      by_cases hm : 2048 ≤ 64 * (64 * (g l 0 - 224) + g l 1 % 64) + g l 2 % 64 ∧ (64 * (64 * (g l 0 - 224) + g l 1 % 64) + g l 2 % 64 < 55296 ∨ 57344 ≤ 64 * (64 * (g l 0 - 224) + g l 1 % 64) + g l 2 % 64)
      · rw [take_three l hlen]
        have hbt := bts_three (m := 64 * (64 * (g l 0 - 224) + g l 1 % 64) + g l 2 % 64) (by omega)
        by_cases hk : g l 1 / 64 = 2 ∧ g l 2 / 64 = 2
        · rw [if_pos ⟨hlen, hk.1, hk.2, hm⟩] at hd1
          rw [if_pos ⟨(isR_iff _).2 (by omega), ((hbt _ _ _).2 (by omega))⟩, fst_some_of ?_, hd1]
          rw [hp, hd1]
          simp only
          omega
        · rw [if_neg (by omega)] at hd1
          rw [if_neg (by rintro ⟨_, hx⟩; have := (hbt _ _ _).1 hx; omega), fst_none (by rw [hd1]) (by rw [hp]; omega)]
      · rw [if_neg (by omega)] at hd1
        rw [fst_none (by rw [hd1]) (by rw [hp]; omega)]
        by_cases hs : 55296 ≤ 64 * (64 * (g l 0 - 224) + g l 1 % 64) + g l 2 % 64 ∧ 64 * (64 * (g l 0 - 224) + g l 1 % 64) + g l 2 % 64 ≤ 57343
        · rw [if_neg (by rw [isR_iff]; omega)]
        · by_cases h8 : 64 * (64 * (g l 0 - 224) + g l 1 % 64) + g l 2 % 64 < 128
          · have hb1 := bts_len1 h8
            rw [if_neg (by rintro ⟨_, hx⟩; rw [hx, take_three l hlen] at hb1; simp at hb1)]
          · have hb1 := bts_len2 (m := 64 * (64 * (g l 0 - 224) + g l 1 % 64) + g l 2 % 64) (by omega) (by omega)
            rw [if_neg (by rintro ⟨_, hx⟩; rw [hx, take_three l hlen] at hb1; simp at hb1)]
    · rw [if_neg (by omega)] at hd1
      rw [if_pos (by omega), fst_none (by rw [hd1]) (by rw [hp]; omega)]
  · have hh : hd (g l 0) = (4, g l 0 - 240) := by
      unfold hd
      repeat' split
      all_goals first | (exfalso; omega) | rfl
    have hd1 : dec l = _ := dec_four (by omega) (by omega)
    simp only [rfst, hh, Nat.reduceSub, fold, Nat.zero_add, Nat.reduceAdd]
    by_cases hlen : 3 < l.length
    · rw [if_neg (by omega)]
      have ha : g l 0 = (l.getD 0 0).toNat := rfl
      have hb : g l 1 = (l.getD 1 0).toNat := rfl
      have hc : g l 2 = (l.getD 2 0).toNat := rfl
      have hd' : g l 3 = (l.getD 3 0).toNat := rfl
      by_cases hm : 65536 ≤ 64 * (64 * (64 * (g l 0 - 240) + g l 1 % 64) + g l 2 % 64) + g l 3 % 64 ∧ 64 * (64 * (64 * (g l 0 - 240) + g l 1 % 64) + g l 2 % 64) + g l 3 % 64 ≤ 1114111
      · rw [take_four l hlen]
        have hbt := bts_four hm.1 hm.2
        by_cases hk : g l 1 / 64 = 2 ∧ g l 2 / 64 = 2 ∧ g l 3 / 64 = 2
        · rw [if_pos ⟨hlen, hk.1, hk.2.1, hk.2.2, hm⟩] at hd1
          rw [if_pos ⟨(isR_iff _).2 (by omega), ((hbt _ _ _ _).2 (by omega))⟩, fst_some_of ?_, hd1]
          rw [hp, hd1]
          simp only
          omega
        · rw [if_neg (by omega)] at hd1
          rw [if_neg (by rintro ⟨_, hx⟩; have := (hbt _ _ _ _).1 hx; omega), fst_none (by rw [hd1]) (by rw [hp]; omega)]
      · rw [if_neg (by omega)] at hd1
        rw [fst_none (by rw [hd1]) (by rw [hp]; omega)]
        generalize hM : 64 * (64 * (64 * (g l 0 - 240) + g l 1 % 64) + g l 2 % 64) + g l 3 % 64 = M at hm ⊢
        by_cases hs : 1114111 < M ∨ (55296 ≤ M ∧ M ≤ 57343)
        · rw [if_neg (by rw [isR_iff]; omega)]
        · have hb1 : (bts M).length ≠ 4 := by
            by_cases h8 : M < 128
            · rw [bts_len1 h8]; omega
            · by_cases h9 : M < 2048
              · rw [bts_len2 (by omega) h9]; omega
              · rw [bts_len3 (by omega)]; omega
          rw [if_neg (by rintro ⟨_, hx⟩; rw [hx, take_four l hlen] at hb1; simp at hb1)]
    · rw [if_neg (by omega)] at hd1
      rw [if_pos (by omega), fst_none (by rw [hd1]) (by rw [hp]; omega)]

theorem fst_spec {l : List UInt8} (h : l ≠ []) {n : Int} {k : Nat} (he : fst l = some (n, k)) : isR n = true ∧ bts n = l.take k ∧ 1 ≤ k ∧ k ≤ l.length := by
  rw [← rfst_eq l h] at he
  unfold rfst at he
  split at he
  · cases he
  · rename_i h1
    split at he
    · rename_i h2
      simp only [Option.some.injEq, Prod.mk.injEq] at he
      obtain ⟨rfl, rfl⟩ := he
      exact ⟨h2.1, h2.2, by omega, by omega⟩
    · cases he

/-- A text's runes, k of them at most. -/
def ofK : Nat → List UInt8 → Option (List Int)
  | _, [] => some []
  | 0, _ :: _ => none
  | k + 1, a :: t => match fst (a :: t) with
    | none => none
    | some (n, s) => (ofK k ((a :: t).drop s)).map (n :: ·)
def ofR (l : List UInt8) : Option (List Int) := ofK l.length l

theorem ofK_more : ∀ (j k : Nat) (l : List UInt8), l.length ≤ j → l.length ≤ k → ofK j l = ofK k l
  | j, k, [], _, _ => by simp [ofK]
  | 0, _, a :: t, h, _ => by simp at h
  | _, 0, a :: t, _, h => by simp at h
  | j + 1, k + 1, a :: t, hj, hk => by
    simp only [ofK]
    match he : fst (a :: t) with
    | none => rfl
    | some (n, s) =>
      obtain ⟨_, _, h1, h2⟩ := fst_spec (by simp) he
      simp only
      rw [ofK_more j k _ (by rw [List.length_drop]; simp at hj ⊢; omega) (by rw [List.length_drop]; simp at hk ⊢; omega)]
theorem ofR_nil : ofR [] = some [] := rfl
theorem ofR_step {l : List UInt8} (h : l ≠ []) {n : Int} {s : Nat} (he : fst l = some (n, s)) : ofR l = (ofR (l.drop s)).map (n :: ·) := by
  match l, h with
  | a :: t, _ =>
    obtain ⟨_, _, h1, h2⟩ := fst_spec (by simp) he
    unfold ofR
    rw [List.length_cons, ofK, he]
    simp only
    rw [ofK_more t.length ((a :: t).drop s).length _ (by rw [List.length_drop]; simp; omega) (Nat.le_refl _)]
theorem ofR_none {l : List UInt8} (h : l ≠ []) (he : fst l = none) : ofR l = none := by
  match l, h with
  | a :: t, _ =>
    unfold ofR
    rw [List.length_cons, ofK, he]

theorem ofK_spec : ∀ (k : Nat) (l : List UInt8) (r : List Int), ofK k l = some r → r.flatMap bts = l ∧ (∀ n ∈ r, isR n = true)
  | _, [], r, h => by
    simp [ofK] at h
    subst h
    simp
  | 0, _ :: _, r, h => by simp [ofK] at h
  | k + 1, a :: t, r, h => by
    simp only [ofK] at h
    match he : fst (a :: t) with
    | none => rw [he] at h; simp at h
    | some (n, s) =>
      rw [he] at h
      simp only [Option.map_eq_some_iff] at h
      obtain ⟨q, hq, rfl⟩ := h
      obtain ⟨h0, h1, h2, h3⟩ := fst_spec (by simp) he
      obtain ⟨i1, i2⟩ := ofK_spec k _ _ hq
      refine ⟨by rw [List.flatMap_cons, i1, h1, List.take_append_drop], ?_⟩
      intro x hx
      simp only [List.mem_cons] at hx
      rcases hx with rfl | hx
      · exact h0
      · exact i2 x hx
theorem ofR_spec {l : List UInt8} {r : List Int} (h : ofR l = some r) : r.flatMap bts = l ∧ (∀ n ∈ r, isR n = true) := ofK_spec _ _ _ h

/-- Of. -/
def ofE (l : List UInt8) : Int := match ofR l with | none => 3 | some r => if 64 < r.length then 4 else 0
def ofV (l : List UInt8) : List Int := match ofR l with | none => [] | some r => if 64 < r.length then [] else r
theorem ofV_le (l : List UInt8) : (ofV l).length ≤ 64 := by
  unfold ofV
  split
  · simp
  · split
    · simp
    · omega
theorem of_none {l : List UInt8} (h : ofR l = none) : ofE l = 3 ∧ ofV l = [] := by simp [ofE, ofV, h]
theorem of_many {l : List UInt8} {r : List Int} (h : ofR l = some r) (hr : 64 < r.length) : ofE l = 4 ∧ ofV l = [] := by simp [ofE, ofV, h, hr]
theorem of_some {l : List UInt8} {r : List Int} (h : ofR l = some r) (hr : r.length ≤ 64) : ofE l = 0 ∧ ofV l = r := by
  have : ¬ 64 < r.length := by omega
  simp [ofE, ofV, h, this]

/-- What a row may hold. -/
def okN (n : Int) : Bool := n == -1 || isR n
theorem okN_iff (n : Int) : okN n = true ↔ n = -1 ∨ (0 ≤ n ∧ n ≤ 1114111 ∧ (n < 55296 ∨ 57343 < n)) := by
  simp only [okN, Bool.or_eq_true, beq_iff_eq, isR_iff]
/-- Check. -/
def chk (l : List Int) : Int := if 64 < l.length then 4 else if l.all okN then 0 else 8
theorem chk_many {l : List Int} (h : 64 < l.length) : chk l = 4 := by simp [chk, h]
theorem chk_bad {l : List Int} (h : ¬ 64 < l.length) (h2 : l.all okN = false) : chk l = 8 := by simp only [chk, if_neg h, h2]; rfl
theorem chk_ok {l : List Int} (h : ¬ 64 < l.length) (h2 : l.all okN = true) : chk l = 0 := by simp only [chk, if_neg h, h2]; rfl
theorem chk_zero {l : List Int} : chk l = 0 ↔ l.length ≤ 64 ∧ l.all okN = true := by
  unfold chk
  split
  · simp; omega
  · split
    · rename_i h1 h2; simp only [h2]; simp; omega
    · rename_i h1 h2; simp [h2]
theorem chk_range (l : List Int) : chk l = 0 ∨ chk l = 4 ∨ chk l = 8 := by
  unfold chk
  repeat' split
  all_goals simp

/-- A number's four bytes. -/
def four (n : Int) : List UInt8 := [UInt8.ofNat (n % 4294967296 / 16777216).toNat, UInt8.ofNat (n % 4294967296 / 65536 % 256).toNat, UInt8.ofNat (n % 4294967296 / 256 % 256).toNat, UInt8.ofNat (n % 4294967296 % 256).toNat]
def wide (l : List Int) : List UInt8 := l.flatMap four
theorem four_length (n : Int) : (four n).length = 4 := rfl
theorem wide_length (l : List Int) : (wide l).length = 4 * l.length := by
  induction l with
  | nil => rfl
  | cons a t ih => simp only [wide, List.flatMap_cons, List.length_append, List.length_cons] at *; rw [ih, four_length]; omega
theorem wide_snoc (l : List Int) (n : Int) : wide (l ++ [n]) = wide l ++ four n := by simp [wide]
/-- Put. -/
def putV (l : List Int) : List UInt8 := if chk l = 0 then wide l else []
theorem putV_le (l : List Int) : (putV l).length ≤ 256 := by
  unfold putV
  split
  · rename_i h
    rw [wide_length]
    have := (chk_zero.1 h).1
    omega
  · simp

/-- The number of four bytes. -/
def valU (a b c d : UInt8) : Int := 16777216 * (a.toNat : Int) + 65536 * (b.toNat : Int) + 256 * (c.toNat : Int) + (d.toNat : Int)
def sgn (u : Int) : Int := if u < 2147483648 then u else u - 4294967296
def val4 (a b c d : UInt8) : Int := sgn (valU a b c d)
theorem sgn_mod {u : Int} (h0 : 0 ≤ u) (h1 : u ≤ 4294967295) : sgn u % 4294967296 = u := by
  by_cases h : u < 2147483648
  · rw [sgn, if_pos h]; omega
  · rw [sgn, if_neg h]; omega
theorem sgn_of {u n : Int} (h0 : -2147483648 ≤ n) (h1 : n ≤ 2147483647) (h : u = n % 4294967296) : sgn u = n := by
  by_cases h : u < 2147483648
  · rw [sgn, if_pos h]; omega
  · rw [sgn, if_neg h]; omega
theorem valU_range (a b c d : UInt8) : 0 ≤ valU a b c d ∧ valU a b c d ≤ 4294967295 := by
  have h0 := a.toNat_lt
  have h1 := b.toNat_lt
  have h2 := c.toNat_lt
  have h3 := d.toNat_lt
  unfold valU
  omega
def rows : List UInt8 → List Int
  | a :: b :: c :: d :: t => val4 a b c d :: rows t
  | _ => []
theorem rows_length : ∀ (l : List UInt8), (rows l).length = l.length / 4
  | [] => rfl
  | [_] => by simp [rows]
  | [_, _] => by simp [rows]
  | [_, _, _] => by simp [rows]
  | a :: b :: c :: d :: t => by simp only [rows, List.length_cons, rows_length t]; omega
theorem u8_of (x : UInt8) (y : Int) (h : y = (x.toNat : Int)) : UInt8.ofNat y.toNat = x := by rw [h]; simp
theorem four_val (a b c d : UInt8) : four (val4 a b c d) = [a, b, c, d] := by
  have hr := valU_range a b c d
  have e : val4 a b c d % 4294967296 = valU a b c d := sgn_mod hr.1 hr.2
  unfold four
  rw [e]
  have h0 := a.toNat_lt
  have h1 := b.toNat_lt
  have h2 := c.toNat_lt
  have h3 := d.toNat_lt
  have h : valU a b c d = 16777216 * (a.toNat : Int) + 65536 * (b.toNat : Int) + 256 * (c.toNat : Int) + (d.toNat : Int) := rfl
  generalize valU a b c d = u at h
  rw [u8_of a _ (by omega), u8_of b _ (by omega), u8_of c _ (by omega), u8_of d _ (by omega)]
theorem val_four {n : Int} (h0 : -2147483648 ≤ n) (h1 : n ≤ 2147483647) : val4 (UInt8.ofNat (n % 4294967296 / 16777216).toNat) (UInt8.ofNat (n % 4294967296 / 65536 % 256).toNat) (UInt8.ofNat (n % 4294967296 / 256 % 256).toNat) (UInt8.ofNat (n % 4294967296 % 256).toNat) = n := by
  refine sgn_of h0 h1 ?_
  have hm0 : 0 ≤ n % 4294967296 := by omega
  have hm1 : n % 4294967296 < 4294967296 := by omega
  generalize n % 4294967296 = m at *
  simp only [valU, UInt8.toNat_ofNat']
  omega
theorem wide_rows : ∀ (l : List UInt8), l.length % 4 = 0 → wide (rows l) = l
  | [], _ => rfl
  | [_], h => by simp at h
  | [_, _], h => by simp at h
  | [_, _, _], h => by simp at h
  | a :: b :: c :: d :: t, h => by
    have := wide_rows t (by simp at h; omega)
    simp only [wide] at this
    simp only [rows, wide, List.flatMap_cons, four_val, this]
    rfl
theorem rows_wide : ∀ (l : List Int), (∀ n ∈ l, -2147483648 ≤ n ∧ n ≤ 2147483647) → rows (wide l) = l
  | [], _ => rfl
  | n :: t, h => by
    have := rows_wide t (fun x hx => h x (by simp [hx]))
    obtain ⟨h0, h1⟩ := h n (by simp)
    simp only [wide] at this
    simp only [wide, List.flatMap_cons, four, List.cons_append, List.nil_append, rows, val_four h0 h1, this]
/-- Get. -/
def getE (l : List UInt8) : Int := if 256 < l.length then 4 else if l.length % 4 = 0 ∧ (rows l).all okN = true then 0 else 8
def getV (l : List UInt8) : List Int := if getE l = 0 then rows l else []
theorem getE_many {l : List UInt8} (h : 256 < l.length) : getE l = 4 ∧ getV l = [] := by
  have : getE l = 4 := by simp [getE, h]
  exact ⟨this, by simp [getV, this]⟩
theorem getE_bad {l : List UInt8} (h : ¬ 256 < l.length) (h2 : ¬ (l.length % 4 = 0 ∧ (rows l).all okN = true)) : getE l = 8 ∧ getV l = [] := by
  have : getE l = 8 := by unfold getE; rw [if_neg h, if_neg h2]
  exact ⟨this, by simp [getV, this]⟩
theorem getE_ok {l : List UInt8} (h : ¬ 256 < l.length) (h1 : l.length % 4 = 0) (h2 : (rows l).all okN = true) : getE l = 0 ∧ getV l = rows l := by
  have : getE l = 0 := by unfold getE; rw [if_neg h, if_pos ⟨h1, h2⟩]
  exact ⟨this, by simp [getV, this]⟩
theorem get_chk {l : List UInt8} (h : ¬ 256 < l.length) (h1 : l.length % 4 = 0) : getE l = chk (rows l) ∧ getV l = if chk (rows l) = 0 then rows l else [] := by
  have hl : ¬ 64 < (rows l).length := by rw [rows_length]; omega
  have : getE l = chk (rows l) := by
    unfold getE
    rw [if_neg h]
    cases h2 : (rows l).all okN
    · rw [chk_bad hl h2, if_neg (by simp)]
    · rw [chk_ok hl h2, if_pos ⟨h1, rfl⟩]
  exact ⟨this, by simp only [getV, this]⟩
theorem getV_le (l : List UInt8) : (getV l).length ≤ 64 := by
  unfold getV
  split
  · rename_i h
    unfold getE at h
    split at h
    · simp at h
    · rw [rows_length]; omega
  · simp

/-- What is put is got. -/
theorem ok_range {l : List Int} (h : l.all okN = true) : ∀ n ∈ l, -2147483648 ≤ n ∧ n ≤ 2147483647 := by
  intro n hn
  have := (okN_iff n).1 (List.all_eq_true.1 h n hn)
  omega
theorem get_put {l : List Int} (h : chk l = 0) : getE (putV l) = 0 ∧ getV (putV l) = l ∧ (putV l).length = 4 * l.length := by
  obtain ⟨h1, h2⟩ := chk_zero.1 h
  have e : putV l = wide l := by simp [putV, h]
  have er := rows_wide l (ok_range h2)
  have hl := wide_length l
  rw [e]
  have := getE_ok (l := wide l) (by omega) (by omega) (by rw [er]; exact h2)
  exact ⟨this.1, by rw [this.2, er], hl⟩
theorem put_get {l : List UInt8} (h : getE l = 0) : chk (getV l) = 0 ∧ putV (getV l) = l := by
  have hb : ¬ 256 < l.length := fun hx => by rw [(getE_many hx).1] at h; cases h
  by_cases h2 : l.length % 4 = 0 ∧ (rows l).all okN = true
  · have hv := (getE_ok hb h2.1 h2.2).2
    have hc : chk (rows l) = 0 := chk_ok (by rw [rows_length]; omega) h2.2
    rw [hv]
    exact ⟨hc, by rw [putV, if_pos hc, wide_rows l h2.1]⟩
  · rw [(getE_bad hb h2).1] at h
    cases h

/-- Hide. -/
def hid2 (l : List Int) (p : List Bool) : List Int := List.zipWith (fun n b => if b then -1 else n) l p
def hidE (l : List Int) (p : List Bool) : Int := if chk l = 0 then (if p.length = l.length then 0 else 2) else chk l
def hidV (l : List Int) (p : List Bool) : List Int := if hidE l p = 0 then hid2 l p else []
/-- Text. -/
def one (m : List UInt8) (n : Int) : List UInt8 := if n = -1 then m else bts n
def text (l : List Int) (m : List UInt8) : List UInt8 := l.flatMap (one m)
def textV (l : List Int) (m : List UInt8) : List UInt8 := if chk l = 0 then text l m else []
theorem text_snoc (l : List Int) (n : Int) (m : List UInt8) : text (l ++ [n]) m = text l m ++ one m n := by simp [text]

theorem all_of {r : List Int} (h : ∀ n ∈ r, isR n = true) : r.all okN = true := List.all_eq_true.2 fun n hn => by simp [okN, h n hn]
theorem text_plain : ∀ {r : List Int}, (∀ n ∈ r, isR n = true) → ∀ m : List UInt8, r.flatMap (one m) = r.flatMap bts
  | [], _, _ => rfl
  | n :: t, h, m => by
    have := (isR_iff n).1 (h n (by simp))
    rw [List.flatMap_cons, List.flatMap_cons, text_plain (fun x hx => h x (by simp [hx])) m, one, if_neg (by omega)]
theorem of_back {l : List UInt8} (h : ofE l = 0) (m : List UInt8) : chk (ofV l) = 0 ∧ textV (ofV l) m = l := by
  match hr : ofR l with
  | none => rw [(of_none hr).1] at h; cases h
  | some r =>
    by_cases hl : 64 < r.length
    · rw [(of_many hr hl).1] at h; cases h
    · have hv := (of_some hr (by omega)).2
      obtain ⟨h1, h2⟩ := ofR_spec hr
      have hc : chk r = 0 := chk_ok hl (all_of h2)
      rw [hv]
      refine ⟨hc, ?_⟩
      rw [textV, if_pos hc, text, ← h1]
      exact text_plain h2 m
theorem of_bad {l : List UInt8} (h : ofE l ≠ 0) : ofV l = [] := by
  match hr : ofR l with
  | none => exact (of_none hr).2
  | some r =>
    by_cases hl : 64 < r.length
    · exact (of_many hr hl).2
    · exact absurd (of_some hr (by omega)).1 h
end Go.Proofs.Ytikcknngcdjnhaa
