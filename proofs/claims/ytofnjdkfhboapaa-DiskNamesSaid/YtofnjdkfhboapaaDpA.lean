/-
  The program's own answers of layer 12: which disks may be; New.
-/
import Derived.Test.YtofnjdkfhboapaaDkE
namespace Go.Proofs.Ytofnjdkfhboapaa
open Go.RowKit
set_option linter.unusedVariables false
set_option linter.unusedSimpArgs false

theorem below_of (x y : Int) (q : Bool) (hq : Hid ((decide (0 ≤ x) && decide (x < y)) = q)) (w : World) :
    Calls Try.prog 26 #[.int .i64 x, .int .i64 y] w fun e w' => e = .returned (.bool q) ∧ w = w' := by
  obtain ⟨q0, h0⟩ : ∃ q, decide (0 ≤ x) = q := ⟨_, rfl⟩
  obtain ⟨q1, h1⟩ : ∃ q, decide (x < y) = q := ⟨_, rfl⟩
  have h := hq.out
  rw [h0, h1] at h
  have HQ := hid h
  clear h hq
  go_enter Try.func26, Try.ntmps26
  go_wp2
  all_goals
    go_ret
    exact ⟨ret_bool (by simp [← HQ.out, *]), rfl⟩
theorem placeMay_of (z : Int) (q : Bool) (hq : Hid ((decide (0 ≤ z) && decide (z < 6146)) = q)) (w : World) :
    Calls Try.prog 27 #[.int .i64 z] w fun e w' => e = .returned (.bool q) ∧ w = w' := by
  go_enter Try.func27, Try.ntmps27
  go_wp2_with fail
  refine (below_of z 6146 q hq _).mono ?_
  rintro e w1 ⟨rfl, rfl⟩
  go_wp2
  go_ret
  exact ⟨rfl, rfl⟩
theorem leftMay_of (z : Int) (q : Bool) (hq : Hid ((decide (-1 ≤ z) && decide (z < 2147483648)) = q)) (w : World) :
    Calls Try.prog 25 #[.int .i64 z] w fun e w' => e = .returned (.bool q) ∧ w = w' := by
  by_cases hz : z = -1
  · subst hz
    obtain rfl : q = true := by rw [← hq.out]; decide
    go_enter Try.func25, Try.ntmps25
    go_wp2
    go_ret
    exact ⟨rfl, rfl⟩
  · have d0 : (z == -1) = false := by simpa using hz
    have HQ : Hid ((decide (0 ≤ z) && decide (z < 2147483648)) = q) := hid (by
      rw [← hq.out]
      congr 1
      simp
      omega)
    clear hq
    go_enter Try.func25, Try.ntmps25
    go_wp2_with fail
    refine (below_of z 2147483648 q HQ _).mono ?_
    rintro e w1 ⟨rfl, rfl⟩
    go_wp2
    go_ret
    exact ⟨rfl, rfl⟩

def PrevA (L : List Sct) (j : Nat) (z : Int) : Prop := (j = 0 ∧ z = -1) ∨ ∃ i, ∃ h : i < L.length, j = i + 1 ∧ z = L[i].a
theorem prev_no {L : List Sct} {j : Nat} {z : Int} (h : PrevA L j z) (hj : j < L.length) (hz : L[j].a ≤ z) : secAt L j = false := by
  rcases h with ⟨rfl, rfl⟩ | ⟨i, hi, rfl, rfl⟩
  · exact secAt_lo hj (by omega)
  · exact secAt_up hj hz
theorem prev_yes {L : List Sct} {j : Nat} {z : Int} (h : PrevA L j z) (hj : j < L.length) (hz : z < L[j].a) (h0 : 0 ≤ L[j].a) (h1 : L[j].a < 6146) (hl : L[j].b.length = 128) : secAt L j = true := by
  rcases h with ⟨rfl, rfl⟩ | ⟨i, hi, rfl, rfl⟩
  · rw [secAt_0 hj]; simp; omega
  · rw [secAt_s hj]; simp; omega

set_option maxRecDepth 100000 in
set_option maxHeartbeats 3200000 in
theorem sectorsMay_of (q : Bool) (L : List Sct) (A : Option Addr) (n c : Nat) (hn : Hid (L.length = n)) (hq : Hid (secsB L = q)) (w : World) (hr : RdS w A c L) :
    Calls Try.prog 31 #[.slice A n c] w fun e w' => e = .returned (.bool q) ∧ Below w.heap.size w w' := by
  have hc2 : (c : Int) ≤ 9223372036854775807 := by have := hr.cap; omega
  have hc1 : (n : Int) ≤ c := by have := hr.len; have := hn.out; omega
  have HR := hid hr
  clear hr
  go_enter Try.func31, Try.ntmps31
  go_wp2
  go_loopw [3, 8] (fun y i wr => ∃ (j : Nat) (z : Int), j ≤ n ∧ y = .int .i64 z ∧ i = .int .i64 (j : Int) ∧ Hid (∀ i, i < j → secAt L i = true) ∧ Hid (PrevA L j z) ∧ Below w.heap.size w wr) (fun _ i _ => n - (intOf i).toNat)
  case atStart => exact ⟨0, -1, by omega, rfl, rfl, hid (fun i h => absurd h (by omega)), hid (.inl ⟨rfl, rfl⟩), Below.refl _ _⟩
  case round =>
    obtain ⟨j, y, hj, rfl, rfl, hall, hp, hb⟩ := hrel
    by_cases hjn : j < n
    · have hlt2 : (j : Int) < (n : Int) := by omega
      have hjl : j < L.length := by rw [hn.out]; exact hjn
      obtain ⟨b, o, rfl, hcell⟩ := (HR.out.keep hb).at_ (by omega)
      obtain ⟨X, x, y0, y1, hX⟩ := hcell j hjl
      have hno : secAt L j = false → false = q := fun h => by rw [← hq.out]; exact (secsB_no hjl h).symm
      have k0 := hid (fun h => hno (prev_no hp.out hjl h))
      have k1 := hid (fun h => hno (secAt_lo hjl h))
      have k2 := hid (fun h => hno (secAt_hi hjl h))
      have k3 := hid (fun h => hno (secAt_len hjl h))
      have k4 := hid (prev_yes hp.out hjl)
      have k5 := hid (show PrevA L (j + 1) L[j].a from .inr ⟨j, hjl, rfl, rfl⟩)
      have k6 := hid (fun (h : secAt L j = true) => (show ∀ i, i < j + 1 → secAt L i = true from fun i hi => by
        rcases Nat.lt_or_ge i j with h1 | h1
        · exact hall.out i h1
        · obtain rfl : i = j := by omega
          exact h))
      generalize L[j].a = z at y0 k0 k1 k2 k4 k5
      generalize hpl : L[j].b.length = p at y1 k3 k4
      have hbA := below_in hb (below1 wr (.cells #[.int .i64 z, .slice X p x] 56))
      clear hX hcell hno hpl hall hp
      by_cases l0 : z ≤ y
      · obtain rfl := k0.out l0
        clear k0 k1 k2 k3 k4 k5 k6
        go_wp2
        go_ret
        exact ⟨rfl, hbA⟩
      obtain ⟨u, hu⟩ : ∃ u, (decide (0 ≤ z) && decide (z < 6146)) = u := ⟨_, rfl⟩
      have HU := hid hu
      clear hu
      cases u with
      | false =>
        obtain rfl : false = q := by
          have h := HU.out
          by_cases h0 : 0 ≤ z
          · exact k2.out (by simp [h0] at h; omega)
          · exact k1.out (by omega)
        clear k0 k1 k2 k3 k4 k5 k6
        go_wp2_with (go_at_call 27; refine (placeMay_of z false HU _).mono ?_; rintro e w1 ⟨rfl, rfl⟩)
        go_ret
        exact ⟨rfl, hbA⟩
      | true =>
        by_cases l3 : p = 128
        · subst l3
          have h := HU.out
          simp only [Bool.and_eq_true, decide_eq_true_eq] at h
          have K6 := hid (k6.out (k4.out (by omega) h.1 h.2 rfl))
          clear k0 k1 k2 k3 k4 k6 h
          go_wp2_with (go_at_call 27; refine (placeMay_of z true HU _).mono ?_; rintro e w1 ⟨rfl, rfl⟩)
          go_roundw
          case rel => exact ⟨j + 1, z, by omega, rfl, by go_num, K6, k5, hbA⟩
          case measure => simp [intOf]; omega
        · obtain rfl := k3.out l3
          have d4 : ((p : Int) != 128) = true := by simpa using (show ¬ (p : Int) = 128 by omega)
          clear k0 k1 k2 k3 k4 k5 k6
          go_wp2_with (go_at_call 27; refine (placeMay_of z true HU _).mono ?_; rintro e w1 ⟨rfl, rfl⟩)
          go_ret
          exact ⟨rfl, hbA⟩
    · have hlt2 : ¬ (j : Int) < (n : Int) := by omega
      obtain rfl : true = q := by rw [← hq.out]; exact (secsB_yes fun i hi => hall.out i (by have := hn.out; omega)).symm
      clear hall hp
      go_wp2
      go_ret
      exact ⟨rfl, hb⟩

theorem mayD_parts (d : Dsk) : mayD d = (secsB d.se && (decide (0 ≤ d.st) && decide (d.st < 2147483648)) && (decide (-1 ≤ d.lf) && decide (d.lf < 2147483648)) && (!d.dd || decide (d.lf = 0))) := by
  rw [mayD, tailD]
  cases secsB d.se <;> simp [Bool.and_assoc]
set_option maxRecDepth 100000 in
set_option maxHeartbeats 3200000 in
theorem dcheck_of (d : Dsk) (A : Option Addr) (n c : Nat) (hn : Hid (d.se.length = n)) (v : Int) (hv : Hid ((if mayD d = true then 0 else 8) = v)) (w : World) (hr : RdS w A c d.se) :
    Calls Try.prog 13 #[.agg #[.slice A n c, .int .i64 d.st, .int .i64 d.lf, .bool d.dd]] w fun e w' => e = .returned (.int .i64 v) ∧ Below w.heap.size w w' := by
  have h := hv.out
  rw [mayD_parts] at h
  obtain ⟨q0, h0⟩ : ∃ q, secsB d.se = q := ⟨_, rfl⟩
  obtain ⟨q1, h1⟩ : ∃ q, (decide (0 ≤ d.st) && decide (d.st < 2147483648)) = q := ⟨_, rfl⟩
  obtain ⟨q2, h2⟩ : ∃ q, (decide (-1 ≤ d.lf) && decide (d.lf < 2147483648)) = q := ⟨_, rfl⟩
  rw [h0, h1, h2] at h
  have H0 := hid h0
  have H1 := hid h1
  have H2 := hid h2
  have xa := boxK_new w d A n c 24
  have hb0 := below1 w (.cells (#[.slice A n c, .int .i64 d.st, .int .i64 d.lf, .bool d.dd]) 24)
  have HR := hid (hr.keep hb0)
  clear hr hv h0 h1 h2
  go_enter Try.func13, Try.ntmps13
  have x0 := xa.sl
  go_wp2_with fail
  refine (sectorsMay_of q0 d.se A n c hn H0 _ HR.out).mono ?_
  rintro e w1 ⟨rfl, b1⟩
  replace xa := xa.keep b1
  replace hb0 := below_in hb0 b1
  clear b1 x0
  have x1 := xa.s
  have x2 := xa.l
  have x3 := xa.d
  clear xa
  cases q0 with
  | false =>
    obtain rfl : 8 = v := by simpa using h
    go_wp2
    go_ret
    exact ⟨rfl, hb0⟩
  | true =>
    cases q1 with
    | false =>
      obtain rfl : 8 = v := by simpa using h
      go_wp2_with (go_at_call 26; refine (below_of d.st 2147483648 false H1 _).mono ?_; rintro e w2 ⟨rfl, rfl⟩)
      go_ret
      exact ⟨rfl, hb0⟩
    | true =>
      cases q2 with
      | false =>
        obtain rfl : 8 = v := by simpa using h
        go_wp2_with (first
          | (go_at_call 26; refine (below_of d.st 2147483648 true H1 _).mono ?_; rintro e w2 ⟨rfl, rfl⟩)
          | (go_at_call 25; refine (leftMay_of d.lf false H2 _).mono ?_; rintro e w2 ⟨rfl, rfl⟩))
        go_ret
        exact ⟨rfl, hb0⟩
      | true =>
        cases hdd : d.dd with
        | false =>
          rw [hdd] at h x3
          obtain rfl : 0 = v := by simpa using h
          go_wp2_with (first
            | (go_at_call 26; refine (below_of d.st 2147483648 true H1 _).mono ?_; rintro e w2 ⟨rfl, rfl⟩)
            | (go_at_call 25; refine (leftMay_of d.lf true H2 _).mono ?_; rintro e w2 ⟨rfl, rfl⟩))
          go_ret
          exact ⟨rfl, hb0⟩
        | true =>
          rw [hdd] at h x3
          by_cases hl : d.lf = 0
          · have d4 : (d.lf != 0) = false := by simpa using hl
            obtain rfl : 0 = v := by simpa [hl] using h
            clear h hl
            go_wp2_with (first
              | (go_at_call 26; refine (below_of d.st 2147483648 true H1 _).mono ?_; rintro e w2 ⟨rfl, rfl⟩)
              | (go_at_call 25; refine (leftMay_of d.lf true H2 _).mono ?_; rintro e w2 ⟨rfl, rfl⟩))
            go_ret
            exact ⟨rfl, hb0⟩
          · have d4 : (d.lf != 0) = true := by simpa using hl
            obtain rfl : 8 = v := by simpa [hl] using h
            clear h hl
            go_wp2_with (first
              | (go_at_call 26; refine (below_of d.st 2147483648 true H1 _).mono ?_; rintro e w2 ⟨rfl, rfl⟩)
              | (go_at_call 25; refine (leftMay_of d.lf true H2 _).mono ?_; rintro e w2 ⟨rfl, rfl⟩))
            go_ret
            exact ⟨rfl, hb0⟩

set_option maxRecDepth 100000 in
theorem dnew_any (w : World) :
    Calls Try.prog 9 #[] w fun e w' => e = .returned (.agg #[.slice none 0 0, .int .i64 0, .int .i64 (-1), .bool false]) ∧ Below w.heap.size w w' := by
  go_enter Try.func9, Try.ntmps9
  go_wp2
  exact bodyPost_ret (v := .agg #[.slice none 0 0, .int .i64 0, .int .i64 (-1), .bool false]) (by simp [results, Try.results9, go_sem]) rfl ⟨rfl, by go_grown⟩
end Go.Proofs.Ytofnjdkfhboapaa
