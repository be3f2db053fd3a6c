/-
  The contracts of Put (both) and of the reference's Wide.
-/
import Derived.Test.YtndmblhkmgnpcaaGreatBase
import Derived.Test.YtndmblhkmgnpcaaGreatRows
import Derived.Test.YtndmblhkmgnpcaaGreatMem
import Derived.Outline
import Derived.LoopTactic
import Derived.WalkMore
import Derived.BigQuiet
import Derived.Deep.RegionHeld
import Derived.Laws.MakeOwn
namespace Go.Proofs.YtndmblhkmgnpcaaGreat
set_option linter.unusedVariables false

/-- A rune. -/
def isR (n : Int) : Bool := decide (0 ≤ n) && (decide (n ≤ 1114111) && (decide (n < 55296) || decide (57343 < n)))
theorem isR_iff (n : Int) : isR n = true ↔ 0 ≤ n ∧ n ≤ 1114111 ∧ (n < 55296 ∨ 57343 < n) := by simp [isR]

/-- What a row may hold. -/
def okN (n : Int) : Bool := n == -1 || isR n
theorem okN_iff (n : Int) : okN n = true ↔ n = -1 ∨ (0 ≤ n ∧ n ≤ 1114111 ∧ (n < 55296 ∨ 57343 < n)) := by
  simp only [okN, Bool.or_eq_true, beq_iff_eq, isR_iff]
/-- Check. -/
def chk (l : List Int) : Int := if 64 < l.length then 4 else if l.all okN then 0 else 8
theorem chk_many {l : List Int} (h : 64 < l.length) : chk l = 4 := by simp [chk, h]
theorem chk_bad {l : List Int} (h : ¬ 64 < l.length) (h2 : l.all okN = false) : chk l = 8 := by simp only [chk, if_neg h, h2]; rfl
theorem chk_ok {l : List Int} (h : ¬ 64 < l.length) (h2 : l.all okN = true) : chk l = 0 := by simp only [chk, if_neg h, h2]; rfl
theorem chk_zero {l : List Int} : chk l = 0 ↔ l.length ≤ 64 ∧ l.all okN = true := by
  unfold chk
  split
  · simp; omega
  · split
    · rename_i h1 h2; simp only [h2]; simp; omega
    · rename_i h1 h2; simp [h2]
theorem chk_range (l : List Int) : chk l = 0 ∨ chk l = 4 ∨ chk l = 8 := by
  unfold chk
  repeat' split
  all_goals simp

/-- A number's four bytes. -/
def four (n : Int) : List UInt8 := [UInt8.ofNat (n % 4294967296 / 16777216).toNat, UInt8.ofNat (n % 4294967296 / 65536 % 256).toNat, UInt8.ofNat (n % 4294967296 / 256 % 256).toNat, UInt8.ofNat (n % 4294967296 % 256).toNat]
def wide (l : List Int) : List UInt8 := l.flatMap four
theorem four_length (n : Int) : (four n).length = 4 := rfl
theorem wide_length (l : List Int) : (wide l).length = 4 * l.length := by
  induction l with
  | nil => rfl
  | cons a t ih => simp only [wide, List.flatMap_cons, List.length_append, List.length_cons] at *; rw [ih, four_length]; omega
theorem wide_snoc (l : List Int) (n : Int) : wide (l ++ [n]) = wide l ++ four n := by simp [wide]
/-- Put. -/
def putV (l : List Int) : List UInt8 := if chk l = 0 then wide l else []
theorem putV_le (l : List Int) : (putV l).length ≤ 256 := by
  unfold putV
  split
  · rename_i h
    rw [wide_length]
    have := (chk_zero.1 h).1
    omega
  · simp

/-- The number of four bytes. -/
def valU (a b c d : UInt8) : Int := 16777216 * (a.toNat : Int) + 65536 * (b.toNat : Int) + 256 * (c.toNat : Int) + (d.toNat : Int)
def sgn (u : Int) : Int := if u < 2147483648 then u else u - 4294967296
def val4 (a b c d : UInt8) : Int := sgn (valU a b c d)
theorem sgn_mod {u : Int} (h0 : 0 ≤ u) (h1 : u ≤ 4294967295) : sgn u % 4294967296 = u := by
  by_cases h : u < 2147483648
  · rw [sgn, if_pos h]; omega
  · rw [sgn, if_neg h]; omega
theorem sgn_of {u n : Int} (h0 : -2147483648 ≤ n) (h1 : n ≤ 2147483647) (h : u = n % 4294967296) : sgn u = n := by
  by_cases h : u < 2147483648
  · rw [sgn, if_pos h]; omega
  · rw [sgn, if_neg h]; omega
theorem valU_range (a b c d : UInt8) : 0 ≤ valU a b c d ∧ valU a b c d ≤ 4294967295 := by
  have h0 := a.toNat_lt
  have h1 := b.toNat_lt
  have h2 := c.toNat_lt
  have h3 := d.toNat_lt
  unfold valU
  omega
def rows : List UInt8 → List Int
  | a :: b :: c :: d :: t => val4 a b c d :: rows t
  | _ => []
theorem rows_length : ∀ (l : List UInt8), (rows l).length = l.length / 4
  | [] => rfl
  | [_] => by simp [rows]
  | [_, _] => by simp [rows]
  | [_, _, _] => by simp [rows]
  | a :: b :: c :: d :: t => by simp only [rows, List.length_cons, rows_length t]; omega
theorem u8_of (x : UInt8) (y : Int) (h : y = (x.toNat : Int)) : UInt8.ofNat y.toNat = x := by rw [h]; simp
theorem four_val (a b c d : UInt8) : four (val4 a b c d) = [a, b, c, d] := by
  have hr := valU_range a b c d
  have e : val4 a b c d % 4294967296 = valU a b c d := sgn_mod hr.1 hr.2
  unfold four
  rw [e]
  have h0 := a.toNat_lt
  have h1 := b.toNat_lt
  have h2 := c.toNat_lt
  have h3 := d.toNat_lt
  have h : valU a b c d = 16777216 * (a.toNat : Int) + 65536 * (b.toNat : Int) + 256 * (c.toNat : Int) + (d.toNat : Int) := rfl
  generalize valU a b c d = u at h
  rw [u8_of a _ (by omega), u8_of b _ (by omega), u8_of c _ (by omega), u8_of d _ (by omega)]
theorem val_four {n : Int} (h0 : -2147483648 ≤ n) (h1 : n ≤ 2147483647) : val4 (UInt8.ofNat (n % 4294967296 / 16777216).toNat) (UInt8.ofNat (n % 4294967296 / 65536 % 256).toNat) (UInt8.ofNat (n % 4294967296 / 256 % 256).toNat) (UInt8.ofNat (n % 4294967296 % 256).toNat) = n := by
  refine sgn_of h0 h1 ?_
  have hm0 : 0 ≤ n % 4294967296 := by omega
  have hm1 : n % 4294967296 < 4294967296 := by omega
  generalize n % 4294967296 = m at *
  simp only [valU, UInt8.toNat_ofNat']
  omega
theorem wide_rows : ∀ (l : List UInt8), l.length % 4 = 0 → wide (rows l) = l
  | [], _ => rfl
  | [_], h => by simp at h
  | [_, _], h => by simp at h
  | [_, _, _], h => by simp at h
  | a :: b :: c :: d :: t, h => by
    have := wide_rows t (by simp at h; omega)
    simp only [wide] at this
    simp only [rows, wide, List.flatMap_cons, four_val, this]
    rfl
theorem rows_wide : ∀ (l : List Int), (∀ n ∈ l, -2147483648 ≤ n ∧ n ≤ 2147483647) → rows (wide l) = l
  | [], _ => rfl
  | n :: t, h => by
    have := rows_wide t (fun x hx => h x (by simp [hx]))
    obtain ⟨h0, h1⟩ := h n (by simp)
    simp only [wide] at this
    simp only [wide, List.flatMap_cons, four, List.cons_append, List.nil_append, rows, val_four h0 h1, this]
/-- Get. -/
def getE (l : List UInt8) : Int := if 256 < l.length then 4 else if l.length % 4 = 0 ∧ (rows l).all okN = true then 0 else 8
def getV (l : List UInt8) : List Int := if getE l = 0 then rows l else []
theorem getE_many {l : List UInt8} (h : 256 < l.length) : getE l = 4 ∧ getV l = [] := by
  have : getE l = 4 := by simp [getE, h]
  exact ⟨this, by simp [getV, this]⟩
theorem getE_bad {l : List UInt8} (h : ¬ 256 < l.length) (h2 : ¬ (l.length % 4 = 0 ∧ (rows l).all okN = true)) : getE l = 8 ∧ getV l = [] := by
  have : getE l = 8 := by unfold getE; rw [if_neg h, if_neg h2]
  exact ⟨this, by simp [getV, this]⟩
theorem getE_ok {l : List UInt8} (h : ¬ 256 < l.length) (h1 : l.length % 4 = 0) (h2 : (rows l).all okN = true) : getE l = 0 ∧ getV l = rows l := by
  have : getE l = 0 := by unfold getE; rw [if_neg h, if_pos ⟨h1, h2⟩]
  exact ⟨this, by simp [getV, this]⟩
theorem get_chk {l : List UInt8} (h : ¬ 256 < l.length) (h1 : l.length % 4 = 0) : getE l = chk (rows l) ∧ getV l = if chk (rows l) = 0 then rows l else [] := by
  have hl : ¬ 64 < (rows l).length := by rw [rows_length]; omega
  have : getE l = chk (rows l) := by
    unfold getE
    rw [if_neg h]
    cases h2 : (rows l).all okN
    · rw [chk_bad hl h2, if_neg (by simp)]
    · rw [chk_ok hl h2, if_pos ⟨h1, rfl⟩]
  exact ⟨this, by simp only [getV, this]⟩
theorem getV_le (l : List UInt8) : (getV l).length ≤ 64 := by
  unfold getV
  split
  · rename_i h
    unfold getE at h
    split at h
    · simp at h
    · rw [rows_length]; omega
  · simp

/-- What is put is got. -/
theorem ok_range {l : List Int} (h : l.all okN = true) : ∀ n ∈ l, -2147483648 ≤ n ∧ n ≤ 2147483647 := by
  intro n hn
  have := (okN_iff n).1 (List.all_eq_true.1 h n hn)
  omega
theorem get_put {l : List Int} (h : chk l = 0) : getE (putV l) = 0 ∧ getV (putV l) = l ∧ (putV l).length = 4 * l.length := by
  obtain ⟨h1, h2⟩ := chk_zero.1 h
  have e : putV l = wide l := by simp [putV, h]
  have er := rows_wide l (ok_range h2)
  have hl := wide_length l
  rw [e]
  have := getE_ok (l := wide l) (by omega) (by omega) (by rw [er]; exact h2)
  exact ⟨this.1, by rw [this.2, er], hl⟩
theorem put_get {l : List UInt8} (h : getE l = 0) : chk (getV l) = 0 ∧ putV (getV l) = l := by
  have hb : ¬ 256 < l.length := fun hx => by rw [(getE_many hx).1] at h; cases h
  by_cases h2 : l.length % 4 = 0 ∧ (rows l).all okN = true
  · have hv := (getE_ok hb h2.1 h2.2).2
    have hc : chk (rows l) = 0 := chk_ok (by rw [rows_length]; omega) h2.2
    rw [hv]
    exact ⟨hc, by rw [putV, if_pos hc, wide_rows l h2.1]⟩
  · rw [(getE_bad hb h2).1] at h
    cases h
end Go.Proofs.YtndmblhkmgnpcaaGreat

namespace Go.Proofs.YtndmblhkmgnpcaaGreat
open Go.RowKit
set_option linter.unusedVariables false

theorem ret_int {k : IntKind} {a b : Int} (h : a = b) : Ending.returned (.int k a) = .returned (.int k b) := by rw [h]
theorem ret_bool {a b : Bool} (h : a = b) : Ending.returned (.bool a) = .returned (.bool b) := by rw [h]
theorem info_u8 : (Tryz.prog.info? 5).map (fun i => (i.zero, i.size, i.bytes)) = some (some (.int .u8 0), 1, 1) := by kernel_rfl
theorem info_i32 : (Tryz.prog.info? 21).map (fun i => (i.zero, i.size, i.bytes)) = some (some (.int .i32 0), 1, 4) := by kernel_rfl
theorem rd_string {w : World} {A : Option Addr} {n c : Nat} {l : List UInt8} (hn : Hid (l.length = n)) (h : Rd w A c l) : (convert 51 9 (.slice A n c)).run Tryz.prog w = .ok (.string ⟨l.toArray⟩) w := by
  have e := hn.out
  subst e
  exact h.str _ _ 5 Tryz.underlying51 Tryz.underlying5 Tryz.underlying9
theorem lit_rd (w : World) (l : List UInt8) (hl : l.length ≤ 1000) : Rd (w.alloc (.cells (u8s l).toArray 5)) (some ⟨w.heap.size, 0, none⟩) l.length l := (Own.lit w 5 l (Nat.le_refl _) hl).rd

/-- The document's Is. -/
theorem is_any (n : Int) (w : World) : Calls Tryz.prog 124 #[.int .i64 n] w fun e w' => e = .returned (.bool (isR n)) ∧ w = w' := by
  by_cases h0 : 0 ≤ n
  · by_cases h1 : n ≤ 1114111
    · by_cases h2 : n < 55296
      · have H := hid (show isR n = true by simp [isR]; omega)
        go_enter Tryz.func124, Tryz.ntmps124
        go_wp2
        go_ret
        exact ⟨ret_bool H.out.symm, rfl⟩
      · by_cases h3 : 57343 < n
        · have H := hid (show isR n = true by simp [isR]; omega)
          go_enter Tryz.func124, Tryz.ntmps124
          go_wp2
          go_ret
          exact ⟨ret_bool H.out.symm, rfl⟩
        · have H := hid (show isR n = false by simp [isR]; omega)
          go_enter Tryz.func124, Tryz.ntmps124
          go_wp2
          go_ret
          exact ⟨ret_bool H.out.symm, rfl⟩
    · have H := hid (show isR n = false by simp [isR]; omega)
      have h2 : ¬ n < 55296 := by omega
      have h3 : 57343 < n := by omega
      go_enter Tryz.func124, Tryz.ntmps124
      go_wp2
      go_ret
      exact ⟨ret_bool H.out.symm, rfl⟩
  · have H := hid (show isR n = false by simp [isR]; omega)
    have h2 : n < 55296 := by omega
    go_enter Tryz.func124, Tryz.ntmps124
    go_wp2
    go_ret
    exact ⟨ret_bool H.out.symm, rfl⟩

/-- utf8.ValidRune. -/
theorem valid_any (n : Int) (w : World) : Calls Tryz.prog 161 #[.int .i32 n] w fun e w' => e = .returned (.bool (isR n)) ∧ w = w' := by
  by_cases h0 : 0 ≤ n
  · by_cases h1 : n ≤ 1114111
    · by_cases h2 : n < 55296
      · have H := hid (show isR n = true by simp [isR]; omega)
        go_enter Tryz.func161, Tryz.ntmps161
        go_wp2
        go_ret
        exact ⟨ret_bool H.out.symm, rfl⟩
      · by_cases h3 : 57343 < n
        · have H := hid (show isR n = true by simp [isR]; omega)
          go_enter Tryz.func161, Tryz.ntmps161
          go_wp2
          go_ret
          exact ⟨ret_bool H.out.symm, rfl⟩
        · have H := hid (show isR n = false by simp [isR]; omega)
          go_enter Tryz.func161, Tryz.ntmps161
          go_wp2
          go_ret
          exact ⟨ret_bool H.out.symm, rfl⟩
    · have H := hid (show isR n = false by simp [isR]; omega)
      have h2 : ¬ n < 55296 := by omega
      have h3 : 57343 < n := by omega
      go_enter Tryz.func161, Tryz.ntmps161
      go_wp2
      go_ret
      exact ⟨ret_bool H.out.symm, rfl⟩
  · have H := hid (show isR n = false by simp [isR]; omega)
    have h3 : ¬ 57343 < n := by omega
    go_enter Tryz.func161, Tryz.ntmps161
    go_wp2
    go_ret
    exact ⟨ret_bool H.out.symm, rfl⟩

theorem wrong_any (n : Int) (w : World) : Calls Tryz.prog 158 #[.int .i32 n] w fun e w' => e = .returned (.bool (!okN n)) ∧ w = w' := by
  by_cases h : n = -1
  · subst h
    have H := hid (show okN (-1) = true by decide)
    go_enter Tryz.func158, Tryz.ntmps158
    go_wp2
    go_ret
    exact ⟨ret_bool (by rw [H.out]; rfl), rfl⟩
  · have h2 : (n != -1) = true := by simpa using h
    have H := hid (show okN n = isR n by simp [okN, h])
    clear h
    go_enter Tryz.func158, Tryz.ntmps158
    go_wp2_with (go_at_call 161; refine (valid_any _ _).mono ?_; rintro e w' ⟨rfl, rfl⟩)
    go_ret
    exact ⟨ret_bool (by rw [H.out]), rfl⟩

/-- Where the first one stands that is wrong. -/
def idxI (l : List Int) : Int := match l.findIdx? (fun n => !okN n) with | some i => (i : Int) | none => -1
theorem idxI_none {l : List Int} (h : l.all okN = true) : idxI l = -1 := by
  have : l.findIdx? (fun n => !okN n) = none := by
    rw [List.findIdx?_eq_none_iff]
    intro x hx
    simp [List.all_eq_true.1 h x hx]
  simp [idxI, this]
theorem idxI_at {l : List Int} {j : Nat} (hj : j < l.length) (h1 : (l.take j).all okN = true) (h2 : okN l[j] = false) : idxI l = (j : Int) ∧ l.all okN = false := by
  have : l.findIdx? (fun n => !okN n) = some j := by
    rw [List.findIdx?_eq_some_iff_getElem]
    refine ⟨hj, by simp [h2], fun i hi => ?_⟩
    have : okN l[i] = true := by
      refine List.all_eq_true.1 h1 _ ?_
      rw [List.mem_iff_getElem]
      exact ⟨i, by rw [List.length_take]; omega, by simp⟩
    simp [this]
  refine ⟨by simp [idxI, this], ?_⟩
  rw [Bool.eq_false_iff]
  intro hh
  rw [List.all_eq_true.1 hh _ (List.getElem_mem hj)] at h2
  cases h2

set_option maxHeartbeats 400000 in
theorem index_any (A : Option Addr) (n c : Nat) (l : List Int) (hn : Hid (l.length = n)) (w : World) (hr : Ri w A c l) :
    Calls Tryz.prog 160 #[.slice A n c, .func (.func 158) #[] #[]] w fun e w' => e = .returned (.int .i64 (idxI l)) ∧ w = w' := by
  have hc2 : (c : Int) ≤ 9223372036854775807 := by have := hr.cap; omega
  have hc1 : (n : Int) ≤ c := by have := hr.len; have := hn.out; omega
  have HR := hid hr
  clear hr
  go_enter Tryz.func160, Tryz.ntmps160
  go_wp2
  go_loop [5, 8] (fun x i => ∃ j : Nat, j ≤ n ∧ i = .int .i64 (j : Int) ∧ Hid ((l.take j).all okN = true)) (fun _ i => n - (intOf i).toNat)
  case atStart => exact ⟨0, by omega, rfl, hid rfl⟩
  case round =>
    obtain ⟨j, hj, rfl, hz⟩ := hrel
    by_cases hlt : j < n
    · have hl := hn.out
      obtain ⟨b, o, rfl, hcell⟩ := HR.out.at_ (by omega)
      have h1 := hcell j (by omega)
      have hs : (l.take (j + 1)).all okN = ((l.take j).all okN && okN (l[j]'(by omega))) := by
        rw [List.take_succ_eq_append_getElem (by omega), List.all_append]
        simp
      have hat := idxI_at (l := l) (j := j) (by omega) hz.out
      generalize l[j]'(by omega) = d at h1 hs hat
      have hlt2 : (j : Int) < (n : Int) := by omega
      have HS := hid hs
      have HA := hid hat
      clear hs hcell hl hat
      cases hd : okN d
      · have HD := hid hd
        go_wp2_with (go_at_call 158; refine (wrong_any _ _).mono ?_; rintro e w' ⟨rfl, rfl⟩)
        go_ret
        exact ⟨ret_int (HA.out HD.out).1.symm, rfl⟩
      · have HD := hid hd
        go_wp2_with (go_at_call 158; refine (wrong_any _ _).mono ?_; rintro e w' ⟨rfl, rfl⟩)
        go_round
        case rel => exact ⟨j + 1, by omega, by go_num, hid (by rw [HS.out, hz.out, HD.out]; rfl)⟩
        case measure => simp [intOf]; omega
    · have ej : l.take j = l := List.take_of_length_le (by have := hn.out; omega)
      have hlt2 : ¬ (j : Int) < (n : Int) := by omega
      have HE := hid ej
      clear ej
      go_wp2
      go_ret
      exact ⟨ret_int (idxI_none (by rw [← HE.out]; exact hz.out)).symm, rfl⟩

theorem contains_any (A : Option Addr) (n c : Nat) (l : List Int) (hn : Hid (l.length = n)) (w : World) (hr : Ri w A c l) :
    Calls Tryz.prog 157 #[.slice A n c, .func (.func 158) #[] #[]] w fun e w' => e = .returned (.bool (decide (0 ≤ idxI l))) ∧ w = w' := by
  go_enter Tryz.func157, Tryz.ntmps157
  go_wp2_with (go_at_call 160; refine (index_any A n c l hn _ hr).mono ?_; rintro e w' ⟨rfl, rfl⟩)
  go_ret
  exact ⟨rfl, rfl⟩
theorem idx_dec (l : List Int) : decide (0 ≤ idxI l) = !(l.all okN) := by
  unfold idxI
  match h : l.findIdx? (fun n => !okN n) with
  | none =>
    rw [List.findIdx?_eq_none_iff] at h
    have : l.all okN = true := List.all_eq_true.2 fun x hx => by simpa using h x hx
    simp [this]
  | some i =>
    rw [List.findIdx?_eq_some_iff_getElem] at h
    obtain ⟨hi, h1, _⟩ := h
    have : l.all okN = false := by
      rw [Bool.eq_false_iff]
      intro hh
      rw [List.all_eq_true.1 hh _ (List.getElem_mem hi)] at h1
      cases h1
    simp [this]

set_option maxHeartbeats 400000 in
theorem check_of (z : Int) (A : Option Addr) (n c : Nat) (l : List Int) (hn : Hid (l.length = n)) (hz : Hid (chk l = z)) (w : World) (hr : Ri w A c l) :
    Calls Tryz.prog 146 #[.slice A n c] w fun e w' => e = .returned (.int .i64 z) ∧ w = w' := by
  by_cases hb : 64 < n
  · have hb2 : (64 : Int) < n := by omega
    have H := hid (show z = 4 by rw [← hz.out]; exact chk_many (by rw [hn.out]; exact hb))
    go_enter Tryz.func146, Tryz.ntmps146
    go_wp2
    go_ret
    exact ⟨ret_int H.out.symm, rfl⟩
  · have hb2 : ¬ (64 : Int) < n := by omega
    have hb3 : ¬ 64 < l.length := by rw [hn.out]; exact hb
    have hi := idx_dec l
    cases h : l.all okN
    · have H := hid (show z = 8 by rw [← hz.out]; exact chk_bad hb3 h)
      rw [h] at hi
      clear h hb hb3
      go_enter Tryz.func146, Tryz.ntmps146
      go_wp2_with (go_at_call 157; refine (contains_any A n c l hn _ hr).mono ?_; rintro e w' ⟨rfl, rfl⟩)
      go_ret
      exact ⟨ret_int H.out.symm, rfl⟩
    · have H := hid (show z = 0 by rw [← hz.out]; exact chk_ok hb3 h)
      rw [h] at hi
      clear h hb hb3
      go_enter Tryz.func146, Tryz.ntmps146
      go_wp2_with (go_at_call 157; refine (contains_any A n c l hn _ hr).mono ?_; rintro e w' ⟨rfl, rfl⟩)
      go_ret
      exact ⟨ret_int H.out.symm, rfl⟩
end Go.Proofs.YtndmblhkmgnpcaaGreat

namespace Go.Proofs.YtndmblhkmgnpcaaGreat
open Go.RowKit
set_option linter.unusedVariables false

set_option maxHeartbeats 400000 in
theorem refcheck_of (z : Int) (A : Option Addr) (n c : Nat) (l : List Int) (hn : Hid (l.length = n)) (hz : Hid (chk l = z)) (w : World) (hr : Ri w A c l) :
    Calls Tryz.prog 95 #[.slice A n c] w fun e w' => e = .returned (.int .i64 z) ∧ w = w' := by
  have hc2 : (c : Int) ≤ 9223372036854775807 := by have := hr.cap; omega
  have hc1 : (n : Int) ≤ c := by have := hr.len; have := hn.out; omega
  have HR := hid hr
  clear hr
  by_cases hb : 64 < n
  · have hb2 : (64 : Int) < n := by omega
    have H := hid (show z = 4 by rw [← hz.out]; exact chk_many (by rw [hn.out]; exact hb))
    go_enter Tryz.func95, Tryz.ntmps95
    go_wp2
    go_ret
    exact ⟨ret_int H.out.symm, rfl⟩
  · have hb2 : ¬ (64 : Int) < n := by omega
    have hb3 : ¬ 64 < l.length := by rw [hn.out]; exact hb
    have HB := hid hb3
    clear hb3
    go_enter Tryz.func95, Tryz.ntmps95
    go_wp2
    go_loop [3] (fun i => ∃ j : Nat, j ≤ n ∧ i = .int .i64 (j : Int) ∧ Hid ((l.take j).all okN = true)) (fun i => n - (intOf i).toNat)
    case atStart => exact ⟨0, by omega, rfl, hid rfl⟩
    case round =>
      obtain ⟨j, hj, rfl, hk⟩ := hrel
      by_cases hlt : j < n
      · have hl := hn.out
        obtain ⟨b, o, rfl, hcell⟩ := HR.out.at_ (by omega)
        have h1 := hcell j (by omega)
        have hs : (l.take (j + 1)).all okN = ((l.take j).all okN && okN (l[j]'(by omega))) := by
          rw [List.take_succ_eq_append_getElem (by omega), List.all_append]
          simp
        have hat := idxI_at (l := l) (j := j) (by omega) hk.out
        obtain ⟨hd0, hd1⟩ := HR.out.in32.at_ (j := j) (by omega)
        generalize l[j]'(by omega) = d at h1 hs hat hd0 hd1
        have hlt2 : (j : Int) < (n : Int) := by omega
        have HS := hid hs
        have HA := hid hat
        clear hs hcell hl hat
        by_cases hm : d = -1
        · have HD := hid (show okN d = true by subst hm; rfl)
          have hm2 : (d != -1) = false := by simpa using hm
          clear hm
          go_wp2_with fail
          go_round
          case rel => exact ⟨j + 1, by omega, by go_num, hid (by rw [HS.out, hk.out, HD.out]; rfl)⟩
          case measure => simp [intOf]; omega
        · have hm2 : (d != -1) = true := by simpa using hm
          have HO := hid (show okN d = isR d by simp [okN, hm])
          clear hm
          cases hd : isR d
          · have HD := hid hd
            go_wp2_with (go_at_call 124; refine (is_any _ _).mono ?_; rintro e w' ⟨rfl, rfl⟩)
            go_ret
            exact ⟨ret_int (by rw [← hz.out]; exact (chk_bad HB.out (HA.out (by rw [HO.out]; exact HD.out)).2).symm), rfl⟩
          · have HD := hid hd
            go_wp2_with (go_at_call 124; refine (is_any _ _).mono ?_; rintro e w' ⟨rfl, rfl⟩)
            go_round
            case rel => exact ⟨j + 1, by omega, by go_num, hid (by rw [HS.out, hk.out, HO.out, HD.out]; rfl)⟩
            case measure => simp [intOf]; omega
      · have ej : l.take j = l := List.take_of_length_le (by have := hn.out; omega)
        have hlt2 : ¬ (j : Int) < (n : Int) := by omega
        have HE := hid ej
        clear ej
        go_wp2
        go_ret
        exact ⟨ret_int (by rw [← hz.out]; exact (chk_ok HB.out (by rw [← HE.out]; exact hk.out)).symm), rfl⟩

/-- Whether two rows are one. -/
def sameRow (l m : List Int) : Bool := l == m
theorem sameRow_self (l : List Int) : sameRow l l = true := by simp [sameRow]

theorem same_no {l m : List Int} (h : l.length ≠ m.length) : sameRow l m = false := by
  simp only [sameRow, beq_eq_false_iff_ne, ne_eq]
  intro e
  exact h (by rw [e])
theorem same_at {l m : List Int} {j : Nat} (hl : j < l.length) (hm : j < m.length) (h : l[j] ≠ m[j]) : sameRow l m = false := by
  simp only [sameRow, beq_eq_false_iff_ne, ne_eq]
  rintro rfl
  exact h rfl

set_option maxHeartbeats 800000 in
theorem same_any (A : Option Addr) (n c : Nat) (l : List Int) (hn : Hid (l.length = n)) (B : Option Addr) (k d : Nat) (m : List Int) (hk : Hid (m.length = k)) (w : World) (hr : Ri w A c l) (hq : Ri w B d m) :
    Calls Tryz.prog 75 #[.slice A n c, .slice B k d] w fun e w' => e = .returned (.bool (sameRow l m)) ∧ Below w.heap.size w w' := by
  have hc2 : (c : Int) ≤ 9223372036854775807 := by have := hr.cap; omega
  have hc1 : (n : Int) ≤ c := by have := hr.len; have := hn.out; omega
  have hd2 : (d : Int) ≤ 9223372036854775807 := by have := hq.cap; omega
  have hd1 : (k : Int) ≤ d := by have := hq.len; have := hk.out; omega
  by_cases hnk : n = k
  · subst hnk
    have HR := hid hr
    have HQ := hid hq
    clear hr hq
    go_enter Tryz.func75, Tryz.ntmps75
    go_wp2
    go_loopw [5] (fun i wr => ∃ j : Nat, j ≤ n ∧ i = .int .i64 (j : Int) ∧ Hid (l.take j = m.take j) ∧ Below w.heap.size w wr) (fun i _ => n - (intOf i).toNat)
    case atStart => exact ⟨0, by omega, rfl, hid rfl, Below.refl _ _⟩
    case round =>
      obtain ⟨j, hj, rfl, hz, hb⟩ := hrel
      by_cases hlt : j < n
      · have hl := hn.out
        have hm := hk.out
        obtain ⟨b, o, rfl, hcell⟩ := HR.out.at_ (by omega)
        obtain ⟨b1, o1, rfl, hcell1⟩ := HQ.out.at_ (by omega)
        have h1 := Past.all (keep hb (hcell j (by omega)))
        have h2 := Past.all (keep hb (hcell1 j (by omega)))
        have hs1 := List.take_succ_eq_append_getElem (l := l) (i := j) (by omega)
        have hs2 := List.take_succ_eq_append_getElem (l := m) (i := j) (by omega)
        have hat := same_at (l := l) (m := m) (j := j) (by omega) (by omega)
        generalize l[j]'(by omega) = x at h1 hs1 hat
        generalize m[j]'(by omega) = y at h2 hs2 hat
        have hlt2 : (j : Int) < (n : Int) := by omega
        have H1 := hid hs1
        have H2 := hid hs2
        have HA := hid hat
        clear hs1 hs2 hcell hcell1 hl hm hat
        by_cases hxy : x = y
        · have hxy2 : (x != y) = false := by simpa using hxy
          have HX := hid hxy
          clear hxy
          go_wp2_with fail
          refine wp_region_past (by kernel_rfl) (by kernel_rfl) ?_
          repeat (go_big_quiet_step (fail))
          refine wpQuiet_nil ?_
          rintro _ ⟨⟨w7, hx⟩, rfl⟩
          go_wp2
          go_roundw
          case rel => exact ⟨j + 1, by omega, by go_num, hid (by rw [H1.out, H2.out, hz.out, HX.out]), hb.trans (hx.mono hb.size)⟩
          case measure => simp [intOf]; omega
        · have hxy2 : (x != y) = true := by simpa using hxy
          have HX := hid hxy
          clear hxy
          go_wp2_with fail
          refine wp_region_past (by kernel_rfl) (by kernel_rfl) ?_
          repeat (go_big_quiet_step (fail))
          refine wpQuiet_nil ?_
          rintro _ ⟨⟨w7, hx⟩, rfl⟩
          go_wp2
          go_ret
          exact ⟨ret_bool (HA.out HX.out).symm, hb.trans (hx.mono hb.size)⟩
      · have e1 : l.take j = l := List.take_of_length_le (by have := hn.out; omega)
        have e2 : m.take j = m := List.take_of_length_le (by have := hk.out; omega)
        have hlt2 : ¬ (j : Int) < (n : Int) := by omega
        have HE := hid (show sameRow l m = true by rw [← e1, hz.out, e2]; exact sameRow_self m)
        clear e1 e2
        go_wp2
        go_ret
        exact ⟨ret_bool HE.out.symm, hb⟩
  · have H := hid (same_no (l := l) (m := m) (by rw [hn.out, hk.out]; exact hnk))
    have hnk2 : ¬ (n : Int) = k := by omega
    go_enter Tryz.func75, Tryz.ntmps75
    go_wp2
    go_ret
    exact ⟨ret_bool H.out.symm, Below.refl _ _⟩
theorem same_of (v : Bool) (A : Option Addr) (n c : Nat) (l : List Int) (hn : Hid (l.length = n)) (B : Option Addr) (k d : Nat) (m : List Int) (hk : Hid (m.length = k)) (hv : Hid (sameRow l m = v)) (w : World) (hr : Ri w A c l) (hq : Ri w B d m) :
    Calls Tryz.prog 75 #[.slice A n c, .slice B k d] w fun e w' => e = .returned (.bool v) ∧ Below w.heap.size w w' := by
  have e := hv.out
  subst e
  exact same_any A n c l hn B k d m hk w hr hq

/-- The call hands back a slice of bytes that it made. -/
def RetRd (w : World) (l : List UInt8) (e : Ending) (w' : World) : Prop := ∃ A c, e = .returned (.slice A l.length c) ∧ Rd w' A c l ∧ Below w.heap.size w w'

/-- The call hands back a row that it made, and an error. -/
def RetRow (w : World) (l : List Int) (z : Int) (e : Ending) (w' : World) : Prop := ∃ A c, e = .returned (.tuple #[.slice A l.length c, .int .i64 z]) ∧ Ri w' A c l ∧ Below w.heap.size w w'
theorem ret_row {w w' : World} {A : Option Addr} {n c : Nat} {q l : List Int} {y z : Int} (h : Hid (q = l ∧ y = z ∧ q.length = n)) (hr : Ri w' A c q) (hb : Below w.heap.size w w') : RetRow w l z (.returned (.tuple #[.slice A n c, .int .i64 y])) w' := by
  obtain ⟨rfl, rfl, rfl⟩ := h.out
  exact ⟨A, c, rfl, hr, hb⟩
theorem ret_row_nil {w w' : World} {l : List Int} {y z : Int} (h : Hid (y = z ∧ l = [])) (hb : Below w.heap.size w w') : RetRow w l z (.returned (.tuple #[.slice none 0 0, .int .i64 y])) w' :=
  ret_row (q := []) (hid ⟨h.out.2.symm, h.out.1, rfl⟩) (Ri.nil _) hb

/-- The call hands back bytes that it made, and an error. -/
def RetPut (w : World) (l : List UInt8) (z : Int) (e : Ending) (w' : World) : Prop := ∃ A c, e = .returned (.tuple #[.slice A l.length c, .int .i64 z]) ∧ Rd w' A c l ∧ Below w.heap.size w w'
theorem ret_put {w w' : World} {A : Option Addr} {n c : Nat} {q l : List UInt8} {y z : Int} (h : Hid (q = l ∧ y = z ∧ q.length = n)) (hr : Rd w' A c q) (hb : Below w.heap.size w w') : RetPut w l z (.returned (.tuple #[.slice A n c, .int .i64 y])) w' := by
  obtain ⟨rfl, rfl, rfl⟩ := h.out
  exact ⟨A, c, rfl, hr, hb⟩
theorem ret_put_nil {w w' : World} {l : List UInt8} {y z : Int} (h : Hid (y = z ∧ l = [])) (hb : Below w.heap.size w w') : RetPut w l z (.returned (.tuple #[.slice none 0 0, .int .i64 y])) w' :=
  ret_put (q := []) (hid ⟨h.out.2.symm, h.out.1, rfl⟩) (Rd.nil _) hb

end Go.Proofs.YtndmblhkmgnpcaaGreat

namespace Go.Proofs.YtndmblhkmgnpcaaGreat
open Go.RowKit
set_option linter.unusedVariables false

theorem all_at {l : List Int} (h : l.all okN = true) {j : Nat} (hj : j < l.length) : l[j] = -1 ∨ (0 ≤ l[j] ∧ l[j] ≤ 1114111) := by
  have := (okN_iff _).1 (List.all_eq_true.1 h _ (List.getElem_mem hj))
  omega
theorem wide_take (l : List Int) (j : Nat) (h : j < l.length) : wide (l.take (j + 1)) = wide (l.take j) ++ four l[j] := by
  rw [List.take_succ_eq_append_getElem h, wide_snoc]
theorem u8s_four (n : Int) : u8s (four n) = [.int .u8 (n % 4294967296 / 16777216), .int .u8 (n % 4294967296 / 65536 % 256), .int .u8 (n % 4294967296 / 256 % 256), .int .u8 (n % 4294967296 % 256)] := by
  have h0 : 0 ≤ n % 4294967296 := by omega
  have h1 : n % 4294967296 < 4294967296 := by omega
  unfold four
  generalize n % 4294967296 = m at *
  have k (y : Int) (a : 0 ≤ y) (b : y < 256) : ((UInt8.ofNat y.toNat).toNat : Int) = y := by
    rw [UInt8.toNat_ofNat']
    omega
  simp only [u8s, List.map_cons, List.map_nil]
  rw [k _ (by omega) (by omega), k _ (by omega) (by omega), k _ (by omega) (by omega), k _ (by omega) (by omega)]

theorem four_neg : (u8s (four (-1))).toArray = #[.int .u8 255, .int .u8 255, .int .u8 255, .int .u8 255] := by rw [u8s_four]; rfl
theorem four_pos {x : Int} (h0 : 0 ≤ x) (h1 : x ≤ 1114111) : (u8s (four x)).toArray = #[.int .u8 (x / 16777216), .int .u8 (x / 65536 % 256), .int .u8 (x / 256 % 256), .int .u8 (x % 256)] := by
  have e : x % 4294967296 = x := by omega
  rw [u8s_four, e]
theorem four_pos2 {x : Int} (h0 : 0 ≤ x) (h1 : x ≤ 1114111) : (u8s (four x)).toArray = #[.int .u8 (x / 16777216), .int .u8 (x / 65536), .int .u8 (x / 256 % 256), .int .u8 (x % 256)] := by
  have e : x / 65536 % 256 = x / 65536 := by omega
  rw [four_pos h0 h1, e]
theorem lit_four (w : World) (n : Int) (L : Array Value) (h : Hid ((u8s (four n)).toArray = L)) : Rd (w.alloc (.cells L 5)) (some ⟨w.heap.size, 0, none⟩) 4 (four n) := by
  rw [← h.out]
  exact lit_rd w (four n) (by rw [four_length]; omega)

set_option maxRecDepth 100000 in
set_option maxHeartbeats 1000000 in
theorem wide_any (A : Option Addr) (n c : Nat) (l : List Int) (hn : Hid (l.length = n)) (h5 : n ≤ 1000) (hok : Hid (l.all okN = true)) (w : World) (hr : Ri w A c l) :
    Calls Tryz.prog 127 #[.slice A n c] w (RetRd w (wide l)) := by
  obtain ⟨i0, hi0, hz0, hz1, hz2⟩ := info_parts info_u8
  have hc2 : (c : Int) ≤ 9223372036854775807 := by have := hr.cap; omega
  have hc1 : (n : Int) ≤ c := by have := hr.len; have := hn.out; omega
  have HR := hid hr
  clear hr
  go_enter Tryz.func127, Tryz.ntmps127
  go_wp2
  go_loopw [3, 4, 5] (fun b i x wr => ∃ (j k : Nat) (B : Option Addr) (d : Nat), j ≤ n ∧ i = .int .i64 (j : Int) ∧ b = .slice B k d ∧ Hid (k = 4 * j) ∧ Hid ((wide (l.take j)).length = k) ∧ Own wr w.heap.size 5 B d (wide (l.take j)) ∧ Below w.heap.size w wr) (fun _ i _ _ => n - (intOf i).toNat)
  case atStart => exact ⟨0, 0, none, 0, by omega, rfl, rfl, hid rfl, hid rfl, Own.nil _ _ _, Below.refl _ _⟩
  case round =>
    obtain ⟨j, k, B, d, hj, rfl, rfl, hk, hw, hown, hb⟩ := hrel
    have hk4 : k ≤ 4000 := by have := hk.out; omega
    by_cases hlt : j < n
    · have hl := hn.out
      obtain ⟨b, o, rfl, hcell⟩ := HR.out.at_ (by omega)
      have h1 := keep hb (hcell j (by omega))
      have hv := all_at hok.out (j := j) (by omega)
      have hs := wide_take l j (by omega)
      generalize l[j]'(by omega) = x at h1 hv hs
      have hlt2 : (j : Int) < (n : Int) := by omega
      have HS := hid hs
      have HK := hid (show (wide (l.take (j + 1))).length = k + 4 by rw [hs, List.length_append, hw.out]; rfl)
      have HQ := hid (show k + 4 = 4 * (j + 1) by have := hk.out; omega)
      clear hs hcell hl
      rcases hv with rfl | ⟨hx0, hx1⟩
      · have HU := hid four_neg
        go_wp2_with (at_builtin; refine wpList_append_rd rfl (.tmp 19) (.tmp 34) _ rfl w.heap.size 5 Tryz.underlying51 hi0 hz0 hz1 hz2 B k d (wide (l.take j)) hw rfl (hown.keep ((Below.refl _ _).alloc (Nat.le_refl _) _)) (some ⟨wr.heap.size, 0, none⟩) 4 4 (four (-1)) (hid rfl) rfl (lit_four wr (-1) _ HU) (by omega) (Nat.le_trans hb.size (by simp)) ?_; intro B' d' w1 hown1 hb1)
        go_roundw
        case rel => exact ⟨j + 1, k + 4, B', d', by omega, by go_num, rfl, HQ, HK, by rw [HS.out]; exact hown1, (hb.alloc hb.size _).trans hb1⟩
        case measure => simp [intOf]; omega
      · have hx3 : ¬ x < 0 := by omega
        have HU := hid (four_pos hx0 hx1)
        go_wp2_with (at_builtin; refine wpList_append_rd rfl (.tmp 19) (.tmp 34) _ rfl w.heap.size 5 Tryz.underlying51 hi0 hz0 hz1 hz2 B k d (wide (l.take j)) hw rfl (hown.keep ((Below.refl _ _).alloc (Nat.le_refl _) _)) (some ⟨wr.heap.size, 0, none⟩) 4 4 (four x) (hid rfl) rfl (lit_four wr x _ HU) (by omega) (Nat.le_trans hb.size (by simp)) ?_; intro B' d' w1 hown1 hb1)
        go_roundw
        case rel => exact ⟨j + 1, k + 4, B', d', by omega, by go_num, rfl, HQ, HK, by rw [HS.out]; exact hown1, (hb.alloc hb.size _).trans hb1⟩
        case measure => simp [intOf]; omega
    · have ej : l.take j = l := List.take_of_length_le (by have := hn.out; omega)
      have hlt2 : ¬ (j : Int) < (n : Int) := by omega
      have HE := hid ej
      clear ej
      go_wp2
      go_ret
      refine ⟨B, d, ?_, by rw [← HE.out]; exact hown.rd, hb⟩
      rw [← HE.out, hw.out]
      rfl

theorem put_no {l : List Int} {z : Int} (h : chk l = z) (hz : z ≠ 0) : putV l = [] := by rw [putV, if_neg (by rw [h]; exact hz)]

set_option maxRecDepth 100000 in
set_option maxHeartbeats 1000000 in
theorem rput_any (A : Option Addr) (n c : Nat) (l : List Int) (hn : Hid (l.length = n)) (w : World) (hr : Ri w A c l) :
    Calls Tryz.prog 140 #[.slice A n c] w (RetPut w (putV l) (chk l)) := by
  obtain ⟨i0, hi0, hz0, hz1, hz2⟩ := info_parts info_u8
  obtain ⟨z, hz⟩ : ∃ z, chk l = z := ⟨_, rfl⟩
  have HZ := hid hz
  by_cases h0 : z = 0
  · obtain ⟨h1, h2⟩ := chk_zero.1 (hz.trans h0)
    have HV := hid (show wide l = putV l by rw [putV, if_pos (hz.trans h0)])
    have HO := hid h2
    have h3 : n ≤ 64 := by rw [← hn.out]; omega
    have h4 : (n : Int) ≤ 64 := by omega
    have hc2 : (c : Int) ≤ 9223372036854775807 := by have := hr.cap; omega
    have hc1 : (n : Int) ≤ c := by have := hr.len; have := hn.out; omega
    have HR := hid hr
    subst h0
    clear hz h1 h2
    go_enter Tryz.func140, Tryz.ntmps140
    go_wp2_with fail
    refine (check_of 0 A n c l hn HZ _ hr).mono ?_
    rintro e w' ⟨rfl, rfl⟩
    obtain ⟨w1, hrun, hown0, hgr⟩ := run_make_own (P := Tryz.prog) w w.heap.size 51 5 i0 (.int .u8 0) 1 Tryz.underlying51 hi0 hz0 hz1 .i64 .i64 (4 * n) (by rw [hz2]; omega) (by unfold maxLen; omega) (Nat.le_refl _)
    have hcast : ((4 * n : Nat) : Int) = 4 * (n : Int) := by omega
    rw [hcast] at hrun
    have hb0 : Below w.heap.size w w1 := (Below.refl _ _).grown hgr (Nat.le_refl _) (fun k hk => by cases hk)
    have hown1 : Own w1 w.heap.size 5 (some ⟨w.heap.size, 0, none⟩) (4 * n) [] := hown0
    generalize 4 * n = d0 at hrun hown1
    clear hr hcast hown0 hgr
    go_wp2
    go_loopw [5, 7, 19] (fun b x i wr => ∃ (j k : Nat) (B : Option Addr) (d : Nat), j ≤ n ∧ i = .int .i64 (j : Int) ∧ b = .slice B k d ∧ Hid (k = 4 * j) ∧ Hid ((wide (l.take j)).length = k) ∧ Own wr w.heap.size 5 B d (wide (l.take j)) ∧ Below w.heap.size w wr) (fun _ _ i _ => n - (intOf i).toNat)
    case atStart => exact ⟨0, 0, _, _, by omega, rfl, rfl, hid rfl, hid rfl, hown1, hb0⟩
    case round =>
      obtain ⟨j, k, B, d, hj, rfl, rfl, hk, hw, hown, hb⟩ := hrel
      have hk4 : k ≤ 4000 := by have := hk.out; omega
      by_cases hlt : j < n
      · have hl := hn.out
        obtain ⟨b, o, rfl, hcell⟩ := HR.out.at_ (by omega)
        have h1 := keep hb (hcell j (by omega))
        have hv := all_at HO.out (j := j) (by omega)
        have hs := wide_take l j (by omega)
        generalize l[j]'(by omega) = x at h1 hv hs
        have hlt2 : (j : Int) < (n : Int) := by omega
        have HS := hid hs
        have HK := hid (show (wide (l.take (j + 1))).length = k + 4 by rw [hs, List.length_append, hw.out]; rfl)
        have HQ := hid (show k + 4 = 4 * (j + 1) by have := hk.out; omega)
        clear hs hcell hl hown1 hb0 hrun
        rcases hv with rfl | ⟨hx0, hx1⟩
        · have HU := hid four_neg
          go_wp2_with (at_builtin; refine wpList_append_rd rfl (.tmp 23) (.tmp 35) _ rfl w.heap.size 5 Tryz.underlying51 hi0 hz0 hz1 hz2 B k d (wide (l.take j)) hw rfl (hown.keep ((Below.refl _ _).alloc (Nat.le_refl _) _)) (some ⟨wr.heap.size, 0, none⟩) 4 4 (four (-1)) (hid rfl) rfl (lit_four wr (-1) _ HU) (by omega) (Nat.le_trans hb.size (by simp)) ?_; intro B' d' w2 hown2 hb1)
          go_roundw
          case rel => exact ⟨j + 1, k + 4, B', d', by omega, by go_num, rfl, HQ, HK, by rw [HS.out]; exact hown2, (hb.alloc hb.size _).trans hb1⟩
          case measure => simp [intOf]; omega
        · have hx3 : ¬ x < 0 := by omega
          have HU := hid (four_pos2 hx0 hx1)
          go_wp2_with (at_builtin; refine wpList_append_rd rfl (.tmp 23) (.tmp 35) _ rfl w.heap.size 5 Tryz.underlying51 hi0 hz0 hz1 hz2 B k d (wide (l.take j)) hw rfl (hown.keep ((Below.refl _ _).alloc (Nat.le_refl _) _)) (some ⟨wr.heap.size, 0, none⟩) 4 4 (four (x)) (hid rfl) rfl (lit_four wr (x) _ HU) (by omega) (Nat.le_trans hb.size (by simp)) ?_; intro B' d' w2 hown2 hb1)
          go_roundw
          case rel => exact ⟨j + 1, k + 4, B', d', by omega, by go_num, rfl, HQ, HK, by rw [HS.out]; exact hown2, (hb.alloc hb.size _).trans hb1⟩
          case measure => simp [intOf]; omega
      · have ej : l.take j = l := List.take_of_length_le (by have := hn.out; omega)
        have hlt2 : ¬ (j : Int) < (n : Int) := by omega
        have HE := hid ej
        clear ej hown1 hb0 hrun
        go_wp2
        go_ret2
        exact ret_put (hid ⟨by rw [HE.out, HV.out], HZ.out.symm, by rw [← hw.out]⟩) hown.rd hb
  · have HV := hid (put_no hz h0)
    have hz2 : (z != 0) = true := by simpa using h0
    clear hz h0
    go_enter Tryz.func140, Tryz.ntmps140
    go_wp2_with (go_at_call 146; refine (check_of z A n c l hn HZ _ hr).mono ?_; rintro e w' ⟨rfl, rfl⟩)
    go_ret2
    exact ret_put_nil (hid ⟨HZ.out.symm, HV.out⟩) (Below.refl _ _)
end Go.Proofs.YtndmblhkmgnpcaaGreat
