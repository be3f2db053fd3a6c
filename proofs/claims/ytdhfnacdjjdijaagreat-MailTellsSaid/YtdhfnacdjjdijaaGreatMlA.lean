/-
  The small functions of layer 10: numbers that may be, their bytes, and the methods that take bytes.
-/
import Derived.Test.YtdhfnacdjjdijaaGreatMlW
namespace Go.Proofs.YtdhfnacdjjdijaaGreat
open Go.RowKit
set_option linter.unusedVariables false
set_option linter.unusedSimpArgs false

theorem below_of (q : Bool) (n k : Int) (hq : Hid ((decide (0 ≤ n) && decide (n < k)) = q)) (w : World) :
    Calls Tryz.prog 61 #[.int .i64 n, .int .i64 k] w fun e w' => e = .returned (.bool q) ∧ w = w' := by
  by_cases h : 0 ≤ n
  · have HQ := hid (show decide (n < k) = q by rw [← hq.out, decide_eq_true h]; rfl)
    clear hq
    go_enter Tryz.func61, Tryz.ntmps61
    go_wp2
    go_ret
    exact ⟨ret_bool HQ.out, rfl⟩
  · have HQ := hid (show false = q by rw [← hq.out, decide_eq_false h]; rfl)
    clear hq
    go_enter Tryz.func61, Tryz.ntmps61
    go_wp2
    go_ret
    exact ⟨ret_bool HQ.out, rfl⟩
theorem countMay_of (q : Bool) (n : Int) (hq : Hid (countB n = q)) (w : World) :
    Calls Tryz.prog 75 #[.int .i64 n] w fun e w' => e = .returned (.bool q) ∧ w = w' := by
  go_enter Tryz.func75, Tryz.ntmps75
  go_wp2_with (go_at_call 61; refine (below_of q n 16777216 hq _).mono ?_; rintro e w' ⟨rfl, rfl⟩)
  go_ret
  exact ⟨rfl, rfl⟩
theorem codeMay_of (q : Bool) (n : Int) (hq : Hid (codeB n = q)) (w : World) :
    Calls Tryz.prog 89 #[.int .i64 n] w fun e w' => e = .returned (.bool q) ∧ w = w' := by
  go_enter Tryz.func89, Tryz.ntmps89
  go_wp2_with (go_at_call 61; refine (below_of q n 65536 hq _).mono ?_; rintro e w' ⟨rfl, rfl⟩)
  go_ret
  exact ⟨rfl, rfl⟩
theorem askedMay_of (q : Bool) (n : Int) (hq : Hid (askB n = q)) (w : World) :
    Calls Tryz.prog 80 #[.int .u8 n] w fun e w' => e = .returned (.bool q) ∧ w = w' := by
  by_cases h : n = 1
  · have HQ := hid (show true = q by rw [← hq.out, h]; rfl)
    have h1 : (n == 1) = true := by simpa using h
    clear hq h
    go_enter Tryz.func80, Tryz.ntmps80
    go_wp2
    go_ret
    exact ⟨ret_bool HQ.out, rfl⟩
  · have h1 : (n == 1) = false := by simpa using h
    have HQ := hid (show (n == 2) = q by rw [← hq.out, askB, h1]; rfl)
    clear hq h
    go_enter Tryz.func80, Tryz.ntmps80
    go_wp2
    go_ret
    exact ⟨ret_bool HQ.out, rfl⟩

set_option maxRecDepth 100000 in
set_option maxHeartbeats 800000 in
theorem mdigits_of (x : Nat) (z : Int) (k : Nat) (v : Int) (hz : Hid ((x : Int) = z)) (z0 : 0 ≤ z) (z1 : z < 9223372036854775808) (hv : Hid (v = (k : Int))) (hk : k ≤ 7) (w : World) :
    Calls Tryz.prog 63 #[.int .i64 z, .int .i64 v] w fun e w' => e = .returned (.slice (some ⟨w.heap.size, 0, none⟩) k k) ∧ w' = w.alloc (.cells (u8s (dg k x)).toArray 5) := by
  obtain ⟨i0, hi0, hz0, hz1, hz2⟩ := info_parts info_u8
  have hv7 : v ≤ 7 := by rw [hv.out]; omega
  have hmk := fun W : World => run_make (P := Tryz.prog) W 32 5 i0 _ Tryz.underlying32 hi0 hz0 .i64 .i64 (k : Int) (k : Int) (by omega) (by omega) (by rw [hz2]; omega) (by omega)
  obtain rfl := hv.out
  go_enter Tryz.func63, Tryz.ntmps63
  go_wp2
  clear hmk hi0 hz0 hz1 hz2
  go_loopw [6, 11] (fun u i wr => ∃ j : Nat, j ≤ k ∧ i = .int .i64 (j : Int) ∧ wr = w.alloc (.cells (fill x k j) 5)) (fun _ i _ => k - (intOf i).toNat)
  case atStart => exact ⟨0, Nat.zero_le _, rfl, rfl⟩
  case round =>
    obtain ⟨j, hj, rfl, rfl⟩ := hrel
    by_cases hlt : j < k
    · obtain ⟨v0, hv0⟩ := fill_at (n := x) hlt
      obtain ⟨y, hy⟩ : ∃ y : Int, (k : Int) - 1 - (j : Int) = y := ⟨_, rfl⟩
      have hy0 : 0 ≤ y := by omega
      have hy1 : y ≤ 6 := by omega
      have HS := hid (show z / 2 ^ (8 * y).toNat % 256 = (x : Int) / 2 ^ (8 * (k - 1 - j)) % 256 by rw [hz.out, show (8 * y).toNat = 8 * (k - 1 - j) by omega])
      go_wp2
      go_roundw
      case rel => exact ⟨j + 1, by omega, by go_num, by rw [fill, ← HS.out]⟩
      case measure => simp [intOf]; omega
    · have hf := hid (fill_done x k)
      have ej : j = k := by omega
      subst ej
      go_wp2
      go_ret
      exact ⟨rfl, by rw [hf.out]⟩

theorem mdigitsL_of (k : Nat) (v z : Int) (x : Nat) (hz : Hid ((x : Int) = z)) (z0 : 0 ≤ z) (z1 : z < 9223372036854775808) (hv : v = (k : Int)) (hk : k ≤ 7) (w : World) :
    Calls Tryz.prog 63 #[.int .i64 z, .int .i64 v] w fun e w' => ∃ A, e = .returned (.slice A k k) ∧ Own w' w.heap.size 5 A k (dg k x) ∧ Below w.heap.size w w' := by
  refine (mdigits_of x z k v hz z0 z1 (hid hv) hk w).mono ?_
  rintro e w' ⟨rfl, rfl⟩
  have h := Own.lit w 5 (dg k x) (Nat.le_refl _) (by rw [dg_length]; omega)
  rw [dg_length] at h
  exact ⟨_, rfl, h, (Below.refl _ _).alloc (Nat.le_refl _) _⟩

set_option maxRecDepth 100000 in
set_option maxHeartbeats 1600000 in
theorem mtake_any (k p : Nat) (w0 : World) (g : Nat) (A : Option Addr) (n c : Nat) (l : List UInt8) (hp : Hid (p = min k n)) (w : World) (hr : Rdr w0 w g A n c l) :
    Calls Tryz.prog 113 #[.pointer (some ⟨g, 0, none⟩), .int .i64 (k : Int)] w fun e w' => e = .returned (.slice A p c) ∧ Rd w' A c (l.take k) ∧ (∃ B m d, Rdr w0 w' g B m d (l.drop k)) ∧ Turn g w w' := by
  have hc2 : (c : Int) ≤ 9223372036854775807 := by have := hr.rd.cap; omega
  have hc1 : (n : Int) ≤ c := by have := hr.rd.len; have := hr.len; omega
  have hl := hr.len
  have hcell := hr.cell
  have hmay := hr.may
  have HR := hid hr
  have HP := fun B hB => hid (take_post (k := k) (q := p) HR.out hp.out B hB)
  by_cases h0 : n = 0
  · have hp0 : p = 0 := by rw [hp.out]; omega
    have hln : l = [] := List.eq_nil_of_length_eq_zero (by omega)
    have hD : ∀ B, Rd w0 B (c - 0) (l.drop 0) := fun B => by rw [hln]; exact ⟨by simp, by unfold maxLen; omega, fun hp => absurd hp (by simp)⟩
    have HD := hid hD
    subst h0 hp0
    clear hD hln hl hr hp
    by_cases hk : k = 0
    · subst hk
      match A with
      | none =>
        have HX := HP none (HD.out _)
        go_enter Tryz.func113, Tryz.ntmps113
        go_wp2
        go_ret
        exact ⟨rfl, HX.out.1, ⟨_, _, _, HX.out.2.1⟩, HX.out.2.2⟩
      | some a =>
        have HX := HP (some a) (HD.out _)
        go_enter Tryz.func113, Tryz.ntmps113
        go_wp2
        go_ret
        exact ⟨rfl, HX.out.1, ⟨_, _, _, HX.out.2.1⟩, HX.out.2.2⟩
    · have hk0 : 0 < k := by omega
      match A with
      | none =>
        have HX := HP none (HD.out _)
        go_enter Tryz.func113, Tryz.ntmps113
        go_wp2
        go_ret
        exact ⟨rfl, HX.out.1, ⟨_, _, _, HX.out.2.1⟩, HX.out.2.2⟩
      | some a =>
        have HX := HP (some a) (HD.out _)
        go_enter Tryz.func113, Tryz.ntmps113
        go_wp2
        go_ret
        exact ⟨rfl, HX.out.1, ⟨_, _, _, HX.out.2.1⟩, HX.out.2.2⟩
  · obtain ⟨b, o, rfl, _⟩ := hr.rd.at_ (by omega)
    by_cases hkn : k ≤ n
    · have hpk : p = k := by rw [hp.out]; omega
      subst hpk
      have hkn2 : (p : Int) ≤ n := by omega
      have hkn3 : ¬ (n : Int) < p := by omega
      have HB := fun B hA => hid (hr.rd.behind p (by omega) (A := B) hA)
      clear hl hr hp hkn
      by_cases hkc : p = c
      · have HX := HP (some ⟨b, o, none⟩) (HB _ (fun h => absurd hkc h)).out
        subst hkc
        simp only [Nat.sub_self] at HX
        go_enter Tryz.func113, Tryz.ntmps113
        go_wp2
        go_ret
        exact ⟨rfl, HX.out.1, ⟨_, _, _, HX.out.2.1⟩, HX.out.2.2⟩
      · have HX := HP (some ⟨b, o + p, none⟩) (HB _ (fun h => rfl)).out
        go_enter Tryz.func113, Tryz.ntmps113
        go_wp2
        go_ret
        exact ⟨rfl, HX.out.1, ⟨_, _, _, HX.out.2.1⟩, HX.out.2.2⟩
    · have hpk : p = n := by rw [hp.out]; omega
      subst hpk
      have hkn2 : (p : Int) < k := by omega
      have HB := fun B hA => hid (hr.rd.behind p (by omega) (A := B) hA)
      clear hl hr hp hkn
      by_cases hkc : p = c
      · have HX := HP (some ⟨b, o, none⟩) (HB _ (fun h => absurd hkc h)).out
        subst hkc
        simp only [Nat.sub_self] at HX
        go_enter Tryz.func113, Tryz.ntmps113
        go_wp2
        go_ret
        exact ⟨rfl, HX.out.1, ⟨_, _, _, HX.out.2.1⟩, HX.out.2.2⟩
      · have HX := HP (some ⟨b, o + p, none⟩) (HB _ (fun h => rfl)).out
        simp only [Nat.sub_self] at HX
        go_enter Tryz.func113, Tryz.ntmps113
        go_wp2
        go_ret
        exact ⟨rfl, HX.out.1, ⟨_, _, _, HX.out.2.1⟩, HX.out.2.2⟩

theorem mtake_of (k p : Nat) (v : Int) (w0 : World) (g : Nat) (A : Option Addr) (n c : Nat) (l : List UInt8) (hv : v = (k : Int)) (hp : Hid ((l.take k).length = p)) (w : World) (hr : Rdr w0 w g A n c l) :
    Calls Tryz.prog 113 #[.pointer (some ⟨g, 0, none⟩), .int .i64 v] w fun e w' => e = .returned (.slice A p c) ∧ Rd w' A c (l.take k) ∧ (∃ B m d, Rdr w0 w' g B m d (l.drop k)) ∧ Turn g w w' := by
  subst hv
  exact mtake_any k p w0 g A n c l (hid (by rw [← hp.out, List.length_take, hr.len])) w hr

set_option maxRecDepth 100000 in
set_option maxHeartbeats 1600000 in
theorem mnumber_of (k : Nat) (v z : Int) (w0 : World) (g : Nat) (A : Option Addr) (n c : Nat) (l : List UInt8) (hv : v = (k : Int)) (hk : k ≤ 4) (hz : Hid ((vl (l.take k) : Int) = z)) (w : World) (hr : Rdr w0 w g A n c l) :
    Calls Tryz.prog 54 #[.pointer (some ⟨g, 0, none⟩), .int .i64 v] w fun e w' => e = .returned (.int .i64 z) ∧ (∃ B m d, Rdr w0 w' g B m d (l.drop k)) ∧ Turn g w w' := by
  have HV := hid hv
  clear hv
  obtain ⟨p, hp⟩ : ∃ p, (l.take k).length = p := ⟨_, rfl⟩
  have hp4 : p ≤ 4 := by rw [← hp, List.length_take]; omega
  have HP0 := hid hp
  obtain ⟨l1, hl1⟩ : ∃ l1, l.take k = l1 := ⟨_, rfl⟩
  have HL1 := hid hl1
  rw [hl1] at hp
  have HP := hid hp
  have HZ := hid (show (vl l1 : Int) = z by rw [← hl1]; exact hz.out)
  clear hp hl1
  go_enter Tryz.func54, Tryz.ntmps54
  go_wp2_with fail
  refine (mtake_of k p v w0 g A n c l HV.out HP0 _ hr).mono ?_
  rintro e w1 ⟨rfl, hr1, hR, hT⟩
  rw [HL1.out] at hr1
  have hc2 : (c : Int) ≤ 9223372036854775807 := by have := hr1.cap; omega
  have hc1 : (p : Int) ≤ c := by have := hr1.len; have := HP.out; omega
  have HR := hid hr1
  have HRR := hid hR
  have HT := hid hT
  clear hr1 hR hT hr
  go_wp2
  go_loop [5, 7, 12] (fun v u i => ∃ (j : Nat) (y : Int), j ≤ p ∧ i = .int .i64 (j : Int) ∧ v = .int .i64 y ∧ Hid ((vl (l1.take j) : Int) = y)) (fun _ _ i => p - (intOf i).toNat)
  case atStart => exact ⟨0, 0, by omega, rfl, rfl, hid rfl⟩
  case round =>
    obtain ⟨j, y, hj, rfl, rfl, hy⟩ := hrel
    by_cases hlt : j < p
    · have hl := HP.out
      obtain ⟨b, o, rfl, hcell⟩ := HR.out.at_ (by omega)
      have h1 := hcell j (by omega)
      have hs := vl_take (l := l1) (j := j) (by omega)
      have hsm := vl_small l1 (show j ≤ 6 by omega)
      generalize l1[j]'(by omega) = d at h1 hs
      have hd := d.toNat_lt
      have hd2 : (d.toNat : Int) ≤ 255 := by omega
      have y0 : 0 ≤ y := by rw [← hy.out]; omega
      have y1 : y < 281474976710656 := by have := hy.out; simp at hsm; omega
      have ho := or_add y d y0 (by omega)
      have HS := hid (show ((vl (l1.take (j + 1)) : Nat) : Int) = y * 256 + d.toNat by rw [hs]; have := hy.out; omega)
      have hlt2 : (j : Int) < (p : Int) := by omega
      clear hs hsm hd hcell hl
      go_wp2
      go_round
      case rel => exact ⟨j + 1, _, by omega, by go_num, rfl, HS⟩
      case measure => simp [intOf]; omega
    · have ej : l1.take j = l1 := List.take_of_length_le (by have := HP.out; omega)
      have hlt2 : ¬ (j : Int) < (p : Int) := by omega
      have HE := hid ej
      clear ej
      go_wp2
      go_ret
      exact ⟨ret_int (by rw [← HZ.out, ← hy.out, HE.out]), HRR.out, HT.out⟩

theorem code_of (z : Int) (w0 : World) (g : Nat) (A : Option Addr) (n c : Nat) (l : List UInt8) (hz : Hid (nu 2 l = z)) (w : World) (hr : Rdr w0 w g A n c l) :
    Calls Tryz.prog 92 #[.pointer (some ⟨g, 0, none⟩)] w fun e w' => e = .returned (.int .i64 z) ∧ (∃ B m d, Rdr w0 w' g B m d (l.drop 2)) ∧ Turn g w w' := by
  go_enter Tryz.func92, Tryz.ntmps92
  go_wp2_with fail
  refine (mnumber_of 2 2 z w0 g A n c l rfl (by omega) hz _ hr).mono ?_
  rintro e w1 ⟨rfl, hR, hT⟩
  go_wp2
  go_ret
  exact ⟨rfl, hR, hT⟩
end Go.Proofs.YtdhfnacdjjdijaaGreat
