/-
  The program's own answers of layer 12: where a sector stands.
-/
import Derived.Test.YtofnjdkfhboapaaDpB
namespace Go.Proofs.Ytofnjdkfhboapaa
open Go.RowKit
set_option linter.unusedVariables false
set_option linter.unusedSimpArgs false

def cmpI (x y : Int) : Int := if x < y then -1 else if y < x then 1 else 0
theorem nan_any (x : Int) (w : World) :
    Calls Try.prog 46 #[.int .i64 x] w fun e w' => e = .returned (.bool false) ∧ w = w' := by
  go_enter Try.func46, Try.ntmps46
  go_wp2
  go_ret
  exact ⟨ret_bool (by simp), rfl⟩
theorem compare_of (x y z : Int) (hz : Hid (cmpI x y = z)) (w : World) :
    Calls Try.prog 42 #[.int .i64 x, .int .i64 y] w fun e w' => e = .returned (.int .i64 z) ∧ w = w' := by
  have h := hz.out
  rw [cmpI] at h
  by_cases h1 : x < y
  · obtain rfl : -1 = z := by rw [← h, if_pos h1]
    clear h hz
    go_enter Try.func42, Try.ntmps42
    go_wp2_with (go_at_call 46; refine (nan_any _ _).mono ?_; rintro e w1 ⟨rfl, rfl⟩)
    go_ret
    exact ⟨rfl, rfl⟩
  · by_cases h2 : y < x
    · obtain rfl : 1 = z := by rw [← h, if_neg h1, if_pos h2]
      clear h hz
      go_enter Try.func42, Try.ntmps42
      go_wp2_with (go_at_call 46; refine (nan_any _ _).mono ?_; rintro e w1 ⟨rfl, rfl⟩)
      go_ret
      exact ⟨rfl, rfl⟩
    · obtain rfl : 0 = z := by rw [← h, if_neg h1, if_neg h2]
      clear h hz
      go_enter Try.func42, Try.ntmps42
      go_wp2_with (go_at_call 46; refine (nan_any _ _).mono ?_; rintro e w1 ⟨rfl, rfl⟩)
      go_ret
      exact ⟨rfl, rfl⟩
theorem findcmp_of (x y z : Int) (X : Option Addr) (p c : Nat) (hz : Hid (cmpI x y = z)) (w : World) :
    Calls Try.prog 41 #[.agg #[.int .i64 x, .slice X p c], .int .i64 y] w fun e w' => e = .returned (.int .i64 z) ∧ Below w.heap.size w w' := by
  have hb := below1 w (.cells #[.int .i64 x, .slice X p c] 56)
  go_enter Try.func41, Try.ntmps41
  go_wp2_with fail
  refine (compare_of x y z hz _).mono ?_
  rintro e w1 ⟨rfl, rfl⟩
  go_wp2
  go_ret
  exact ⟨rfl, hb⟩

def RetF (w : World) (L : List Sct) (a : Int) (e : Ending) (w' : World) : Prop := ∃ (i : Nat) (t : Bool), e = .returned (.tuple #[.int .i64 (i : Int), .bool t]) ∧ Pos L a i ∧ (t = true ↔ ∃ h : i < L.length, L[i].a = a) ∧ Below w.heap.size w w'
set_option maxRecDepth 100000 in
set_option maxHeartbeats 3200000 in
theorem search_of (L : List Sct) (A : Option Addr) (n c : Nat) (a : Int) (hn : Hid (L.length = n)) (h5 : n ≤ 9000) (hs : Hid (secsB L = true)) (w : World) (hr : RdS w A c L) :
    Calls Try.prog 40 #[.slice A n c, .int .i64 a, .func (.func 41) #[] #[]] w (RetF w L a) := by
  have hc2 : (c : Int) ≤ 9223372036854775807 := by have := hr.cap; omega
  have hc1 : (n : Int) ≤ c := by have := hr.len; have := hn.out; omega
  have HR := hid hr
  clear hr
  go_enter Try.func40, Try.ntmps40
  go_wp2
  go_loopw [9, 10] (fun x y wr => ∃ (i j : Nat), i ≤ j ∧ j ≤ n ∧ x = .int .i64 (i : Int) ∧ y = .int .i64 (j : Int) ∧ Hid (∀ q (hq : q < L.length), q < i → L[q].a < a) ∧ Hid (∀ q (hq : q < L.length), j ≤ q → a ≤ L[q].a) ∧ Below w.heap.size w wr) (fun x y _ => (intOf y - intOf x).toNat)
  case atStart => exact ⟨0, n, by omega, Nat.le_refl _, rfl, rfl, hid (fun q _ h => absurd h (by omega)), hid (fun q hq h => absurd hq (by have := hn.out; omega)), Below.refl _ _⟩
  case round =>
    obtain ⟨i, j, hij, hj, rfl, rfl, hlo, hhi, hb⟩ := hrel
    by_cases hlt : i < j
    · have hlt2 : (i : Int) < (j : Int) := by omega
      obtain ⟨k, hk⟩ : ∃ k : Nat, ((i : Int) + (j : Int)) / 2 = (k : Int) := ⟨(i + j) / 2, by omega⟩
      have hik : i ≤ k := by omega
      have hkj : k < j := by omega
      have hkn : (k : Int) < (n : Int) := by omega
      have hkl : k < L.length := by rw [hn.out]; omega
      obtain ⟨b, o, rfl, hcell⟩ := (HR.out.keep hb).at_ (by omega)
      obtain ⟨X, x, y0, y1, hX⟩ := hcell k hkl
      have k1 := hid (fun (h : L[k].a < a) => (show ∀ q (hq : q < L.length), q < k + 1 → L[q].a < a from fun q hq h1 => by
        rcases Nat.lt_or_ge q k with h2 | h2
        · exact Int.lt_trans (secs_lt hs.out k q hkl h2) h
        · obtain rfl : q = k := by omega
          exact h))
      have k2 := hid (fun (h : a ≤ L[k].a) => (show ∀ q (hq : q < L.length), k ≤ q → a ≤ L[q].a from fun q hq h1 => by
        rcases Nat.lt_or_ge k q with h2 | h2
        · exact Int.le_trans h (Int.le_of_lt (secs_lt hs.out q k hq h2))
        · obtain rfl : q = k := by omega
          exact h))
      generalize L[k].a = z at y0 k1 k2
      generalize L[k].b.length = p at y1
      obtain ⟨v, hv⟩ : ∃ v, cmpI z a = v := ⟨_, rfl⟩
      have HV := hid hv
      rw [cmpI] at hv
      clear hX hcell hkl
      by_cases hza : z < a
      · have K1 := hid (k1.out hza)
        have d0 : decide (v < 0) = true := by rw [← hv, if_pos hza]; decide
        clear k1 k2 hv
        go_wp2_with (go_at_call 41; refine (findcmp_of z a v X p x HV _).mono ?_; rintro e w1 ⟨rfl, b1⟩; have hb1 := below_in hb b1; clear b1)
        go_roundw
        case rel => exact ⟨k + 1, j, by omega, hj, by go_num, rfl, K1, hhi, hb1⟩
        case measure => simp [intOf]; omega
      · have K2 := hid (k2.out (by omega))
        have d0 : decide (v < 0) = false := by rw [← hv, if_neg hza]; split <;> decide
        clear k1 k2 hv
        go_wp2_with (go_at_call 41; refine (findcmp_of z a v X p x HV _).mono ?_; rintro e w1 ⟨rfl, b1⟩; have hb1 := below_in hb b1; clear b1)
        go_roundw
        case rel => exact ⟨i, k, hik, by omega, rfl, by go_num, hlo, K2, hb1⟩
        case measure => simp [intOf]; omega
    · obtain rfl : i = j := by omega
      have hlt2 : ¬ (i : Int) < (i : Int) := by omega
      have hP : Pos L a i := ⟨by have := hn.out; omega, hlo.out, hhi.out⟩
      by_cases hin : i < n
      · have hin2 : (i : Int) < (n : Int) := by omega
        have hil : i < L.length := by rw [hn.out]; omega
        obtain ⟨b, o, rfl, hcell⟩ := (HR.out.keep hb).at_ (by omega)
        obtain ⟨X, x, y0, y1, hX⟩ := hcell i hil
        have HP := hid (fun (v : Int) (hv : cmpI L[i].a a = v) => (show ((v == 0) = true ↔ ∃ h : i < L.length, L[i].a = a) from by
          rw [← hv, cmpI, beq_iff_eq]
          constructor
          · intro h
            refine ⟨hil, ?_⟩
            split at h
            · omega
            · split at h <;> omega
          · rintro ⟨h, h1⟩
            rw [if_neg (by omega), if_neg (by omega)]))
        generalize L[i].a = z at y0 HP
        generalize L[i].b.length = p at y1
        obtain ⟨v, hv⟩ : ∃ v, cmpI z a = v := ⟨_, rfl⟩
        have HV := hid hv
        have HT := hid (HP.out v hv)
        clear hX hcell hil hv HP hlo hhi
        generalize hvt : (v == 0) = t at HT
        go_wp2_with (go_at_call 41; refine (findcmp_of z a v X p x HV _).mono ?_; rintro e w1 ⟨rfl, b1⟩; have hb1 := below_in hb b1; clear b1)
        go_ret2
        exact ⟨i, t, rfl, hP, HT.out, hb1⟩
      · have hin2 : ¬ (i : Int) < (n : Int) := by omega
        clear hlo hhi
        go_wp2
        go_ret2
        exact ⟨i, false, rfl, hP, ⟨fun h => (by cases h), fun ⟨h, _⟩ => absurd h (by have := hn.out; omega)⟩, hb⟩

theorem find_of (L : List Sct) (A : Option Addr) (n c : Nat) (a : Int) (hn : Hid (L.length = n)) (h5 : n ≤ 9000) (hs : Hid (secsB L = true)) (w : World) (hr : RdS w A c L) :
    Calls Try.prog 29 #[.slice A n c, .int .i64 a] w (RetF w L a) := by
  go_enter Try.func29, Try.ntmps29
  go_wp2_with fail
  refine (search_of L A n c a hn h5 hs _ hr).mono ?_
  rintro e w1 ⟨i, t, rfl, hP, hT, b1⟩
  have HT := hid hT
  clear hT
  go_wp2
  go_ret2
  exact ⟨i, t, rfl, hP, HT.out, b1⟩
end Go.Proofs.Ytofnjdkfhboapaa
