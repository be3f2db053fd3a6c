/-
  The document's own answers of layer 12: which disks may be.
-/
import Derived.Test.YtofnjdkfhboapaaDkW
import Derived.Test.YtofnjdkfhboapaaDkP
namespace Go.Proofs.Ytofnjdkfhboapaa
open Go.RowKit
set_option linter.unusedVariables false
set_option linter.unusedSimpArgs false

theorem below1 (w : World) (a : Obj) : Below w.heap.size w (w.alloc a) := by go_grown
theorem mayD_no {d : Dsk} {i : Nat} (hi : i < d.se.length) (h : secAt d.se i = false) : mayD d = false := by rw [mayD, secsB_no hi h]; rfl
theorem mayD_yes {d : Dsk} (h : ∀ i, i < d.se.length → secAt d.se i = true) : mayD d = tailD d := by rw [mayD, secsB_yes h]; rfl
theorem secAt_lo {l : List Sct} {i : Nat} (hi : i < l.length) (h : l[i].a < 0) : secAt l i = false := by
  cases i with
  | zero => rw [secAt_0 hi]; simp; omega
  | succ i => rw [secAt_s hi]; simp; omega
theorem secAt_hi {l : List Sct} {i : Nat} (hi : i < l.length) (h : 6146 ≤ l[i].a) : secAt l i = false := by
  cases i with
  | zero => rw [secAt_0 hi]; simp; omega
  | succ i => rw [secAt_s hi]; simp; omega
theorem secAt_len {l : List Sct} {i : Nat} (hi : i < l.length) (h : l[i].b.length ≠ 128) : secAt l i = false := by
  cases i with
  | zero => rw [secAt_0 hi]; simp [h]
  | succ i => rw [secAt_s hi]; simp [h]
theorem secAt_up {l : List Sct} {i : Nat} (hi : i + 1 < l.length) (h : l[i + 1].a ≤ l[i].a) : secAt l (i + 1) = false := by
  rw [secAt_s hi]; simp; omega

set_option maxRecDepth 100000 in
set_option maxHeartbeats 3200000 in
theorem kmay_of (q : Bool) (d : Dsk) (A : Option Addr) (n c : Nat) (hn : Hid (d.se.length = n)) (hq : Hid (mayD d = q)) (w : World) (hr : RdS w A c d.se) :
    Calls Try.prog 32 #[.agg #[.slice A n c, .int .i64 d.st, .int .i64 d.lf, .bool d.dd]] w fun e w' => e = .returned (.bool q) ∧ Below w.heap.size w w' := by
  have hc2 : (c : Int) ≤ 9223372036854775807 := by have := hr.cap; omega
  have hc1 : (n : Int) ≤ c := by have := hr.len; have := hn.out; omega
  have xa := boxK_new w d A n c 24
  have hb0 := below1 w (.cells (#[.slice A n c, .int .i64 d.st, .int .i64 d.lf, .bool d.dd]) 24)
  have HR := hid hr
  clear hr
  go_enter Try.func32, Try.ntmps32
  go_wp2
  generalize World.alloc w _ = W at xa hb0 ⊢
  go_loopw [3] (fun i wr => ∃ (j : Nat), j ≤ n ∧ i = .int .i64 (j : Int) ∧ Hid (∀ i, i < j → secAt d.se i = true) ∧ Below W.heap.size W wr) (fun i _ => n - (intOf i).toNat)
  case atStart => exact ⟨0, by omega, rfl, hid (fun i h => absurd h (by omega)), Below.refl _ _⟩
  case round =>
    obtain ⟨j, hj, rfl, hall, hb⟩ := hrel
    have xr := xa.keep hb
    have hbw := below_in hb0 hb
    have x0 := xr.sl
    have x1 := xr.s
    have x2 := xr.l
    have x3 := xr.d
    clear xr
    by_cases hjn : j < n
    · have hlt2 : (j : Int) < (n : Int) := by omega
      have hjl : j < d.se.length := by rw [hn.out]; exact hjn
      obtain ⟨b, o, rfl, hcell⟩ := (HR.out.keep hbw).at_ (by omega)
      obtain ⟨X, x, y0, y1, hX⟩ := hcell j hjl
      have lo := secAt_lo hjl
      have hi := secAt_hi hjl
      have ln := secAt_len hjl
      obtain ⟨z, hz⟩ : ∃ z, d.se[j].a = z := ⟨_, rfl⟩
      obtain ⟨p, hp⟩ : ∃ p, d.se[j].b.length = p := ⟨_, rfl⟩
      rw [hz] at y0 lo hi
      rw [hp] at y1 ln
      go_wp2
      have t0 := range_new wr #[.int .i64 z, .slice X p x] 56 0 _ rfl
      have t1 := range_new wr #[.int .i64 z, .slice X p x] 56 1 _ rfl
      have hwr := below1 wr (.cells #[.int .i64 z, .slice X p x] 56)
      generalize World.alloc wr _ = W4 at t0 t1 hwr ⊢
      have hb5 := below_in hb hwr
      have hb4 := below_in hb0 hb5
      replace t0 := Past.all t0
      replace t1 := Past.all t1
      replace x0 := Past.all (keep hwr x0)
      clear x1 x2 x3 y0 y1
      by_cases l0 : z < 0
      · have d0 : decide (z < 0) = true := by simpa using l0
        have HB := mayD_no hjl (lo l0)
        obtain rfl : false = q := by rw [← HB]; exact hq.out
        clear hX hcell hall lo hi ln hz hp HB hjl hq
        refine wp_region_past (by kernel_rfl) (by kernel_rfl) ?_
        repeat (go_big_quiet_step (fail))
        refine wpQuiet_nil ?_
        rintro _ ⟨⟨w7, hx⟩, rfl⟩
        have hb7 := below_in hb4 hx
        clear hx
        go_wp2
        go_ret
        exact ⟨rfl, hb7⟩
      have d0 : decide (z < 0) = false := by simpa using l0
      by_cases l1 : z < 6146
      · have d1 : decide (6146 ≤ z) = false := by simp; omega
        by_cases j0 : j = 0
        · have d2 : decide ((0 : Int) < (j : Int)) = false := by simp; omega
          by_cases l3 : p = 128
          · subst l3
            have HS := hid (show ∀ i, i < j + 1 → secAt d.se i = true from fun i h => by
              subst j0
              obtain rfl : i = 0 := by omega
              rw [secAt_0 hjl, hz, hp]; simp; omega)
            clear hX hcell hall lo hi ln hz hp hjl
            refine wp_region_past (by kernel_rfl) (by kernel_rfl) ?_
            repeat (go_big_quiet_step (fail))
            refine wpQuiet_nil ?_
            rintro _ ⟨⟨w7, hx⟩, rfl⟩
            have hb7 := below_in hb5 hx
            clear hx
            go_wp2
            go_roundw
            case rel => exact ⟨j + 1, by omega, by go_num, HS, hb7⟩
            case measure => simp [intOf]; omega
          · have l4 : ((p : Int) == 128) = false := by simpa using (show ¬ (p : Int) = 128 by omega)
            have HB := mayD_no hjl (ln l3)
            obtain rfl : false = q := by rw [← HB]; exact hq.out
            clear hX hcell hall lo hi ln hz hp HB hjl hq
            refine wp_region_past (by kernel_rfl) (by kernel_rfl) ?_
            repeat (go_big_quiet_step (fail))
            refine wpQuiet_nil ?_
            rintro _ ⟨⟨w7, hx⟩, rfl⟩
            have hb7 := below_in hb4 hx
            clear hx
            go_wp2
            go_ret
            exact ⟨rfl, hb7⟩
        · have d2 : decide ((0 : Int) < (j : Int)) = true := by simp; omega
          obtain ⟨i, hi2⟩ : ∃ i, j = i + 1 := ⟨j - 1, by omega⟩
          have up : d.se[j].a ≤ (d.se[i]'(by omega)).a → secAt d.se j = false := by subst hi2; exact secAt_up hjl
          obtain ⟨X2, x2', v0, v1, hX2⟩ := hcell i (by omega)
          obtain ⟨z2, hz2⟩ : ∃ z, (d.se[i]'(by omega)).a = z := ⟨_, rfl⟩
          rw [hz, hz2] at up
          rw [hz2] at v0
          replace v0 := Past.all (keep hwr v0)
          have e1 : (j : Int) - 1 = (i : Int) := by omega
          have e3 : (i : Int) < (n : Int) := by omega
          by_cases l2 : z ≤ z2
          · have d3 : decide (z ≤ z2) = true := by simpa using l2
            have HB := mayD_no hjl (up l2)
            obtain rfl : false = q := by rw [← HB]; exact hq.out
            clear hX hcell hall lo hi ln hz hp HB hjl hq v1 hX2 hz2 up
            refine wp_region_past (by kernel_rfl) (by kernel_rfl) ?_
            repeat (go_big_quiet_step (fail))
            refine wpQuiet_nil ?_
            rintro _ ⟨⟨w7, hx⟩, rfl⟩
            have hb7 := below_in hb4 hx
            clear hx
            go_wp2
            go_ret
            exact ⟨rfl, hb7⟩
          · have d3 : decide (z ≤ z2) = false := by simpa using l2
            by_cases l3 : p = 128
            · subst l3
              have HS := hid (show ∀ i, i < j + 1 → secAt d.se i = true from fun k h => by
                rcases Nat.lt_or_ge k j with h1 | h1
                · exact hall.out k h1
                · obtain rfl : k = j := by omega
                  subst hi2
                  rw [secAt_s hjl, hz, hz2, hp]; simp; omega)
              clear v1 hX hX2 hcell hall lo hi ln hz hz2 hp up
              refine wp_region_past (by kernel_rfl) (by kernel_rfl) ?_
              repeat (go_big_quiet_step (fail))
              refine wpQuiet_nil ?_
              rintro _ ⟨⟨w7, hx⟩, rfl⟩
              have hb7 := below_in hb5 hx
              clear hx
              go_wp2
              go_roundw
              case rel => exact ⟨j + 1, by omega, by go_num, HS, hb7⟩
              case measure => simp [intOf]; omega
            · have l4 : ((p : Int) == 128) = false := by simpa using (show ¬ (p : Int) = 128 by omega)
              have HB := mayD_no hjl (ln l3)
              obtain rfl : false = q := by rw [← HB]; exact hq.out
              clear hX hcell hall lo hi ln hz hp HB hjl hq v1 hX2 hz2 up
              refine wp_region_past (by kernel_rfl) (by kernel_rfl) ?_
              repeat (go_big_quiet_step (fail))
              refine wpQuiet_nil ?_
              rintro _ ⟨⟨w7, hx⟩, rfl⟩
              have hb7 := below_in hb4 hx
              clear hx
              go_wp2
              go_ret
              exact ⟨rfl, hb7⟩
      · have d1 : decide (6146 ≤ z) = true := by simp; omega
        have HB := mayD_no hjl (hi (by omega))
        obtain rfl : false = q := by rw [← HB]; exact hq.out
        clear hX hcell hall lo hi ln hz hp HB hjl hq
        refine wp_region_past (by kernel_rfl) (by kernel_rfl) ?_
        repeat (go_big_quiet_step (fail))
        refine wpQuiet_nil ?_
        rintro _ ⟨⟨w7, hx⟩, rfl⟩
        have hb7 := below_in hb4 hx
        clear hx
        go_wp2
        go_ret
        exact ⟨rfl, hb7⟩
    · have hlt2 : ¬ (j : Int) < (n : Int) := by omega
      have HB := mayD_yes (d := d) fun i hi => hall.out i (by have := hn.out; omega)
      rw [HB] at hq
      have ht := hq.out
      unfold tailD at ht
      clear hall HB HR hq
      by_cases m0 : 0 ≤ d.st
      · by_cases m1 : d.st < 2147483648
        · by_cases m2 : -1 ≤ d.lf
          · by_cases m3 : d.lf < 2147483648
            · cases hdd : d.dd with
              | false =>
                rw [hdd] at x3 ht
                obtain rfl : true = q := by rw [← ht]; simp [m0, m1, m2, m3]
                go_wp2
                go_ret
                exact ⟨rfl, hbw⟩
              | true =>
                rw [hdd] at x3 ht
                obtain ⟨v, hv⟩ : ∃ v, (d.lf == 0) = v := ⟨_, rfl⟩
                obtain rfl : v = q := by rw [← ht, ← hv]; simp [m0, m1, m2, m3]; rfl
                go_wp2
                go_ret
                exact ⟨rfl, hbw⟩
            · obtain rfl : false = q := by rw [← ht]; simp [m3]
              go_wp2
              go_ret
              exact ⟨rfl, hbw⟩
          · obtain rfl : false = q := by rw [← ht]; simp [m2]
            go_wp2
            go_ret
            exact ⟨rfl, hbw⟩
        · obtain rfl : false = q := by rw [← ht]; simp [m1]
          go_wp2
          go_ret
          exact ⟨rfl, hbw⟩
      · obtain rfl : false = q := by rw [← ht]; simp [m0]
        go_wp2
        go_ret
        exact ⟨rfl, hbw⟩

set_option maxRecDepth 100000 in
theorem kcheck_of (d : Dsk) (A : Option Addr) (n c : Nat) (hn : Hid (d.se.length = n)) (v : Int) (hv : Hid ((if mayD d = true then 0 else 8) = v)) (w : World) (hr : RdS w A c d.se) :
    Calls Try.prog 21 #[.agg #[.slice A n c, .int .i64 d.st, .int .i64 d.lf, .bool d.dd]] w fun e w' => e = .returned (.int .i64 v) ∧ Below w.heap.size w w' := by
  obtain ⟨q, hq⟩ : ∃ q, mayD d = q := ⟨_, rfl⟩
  have HQ := hid hq
  have h := hv.out
  rw [hq] at h
  have xa := boxK_new w d A n c 24
  have hb0 := below1 w (.cells (#[.slice A n c, .int .i64 d.st, .int .i64 d.lf, .bool d.dd]) 24)
  have HR := hid (hr.keep hb0)
  have x0 := xa.sl
  have x1 := xa.s
  have x2 := xa.l
  have x3 := xa.d
  clear hr hv hq xa
  go_enter Try.func21, Try.ntmps21
  go_wp2_with fail
  refine (kmay_of q d A n c hn HQ _ HR.out).mono ?_
  rintro e w1 ⟨rfl, b1⟩
  replace b1 := below_in hb0 b1
  cases q with
  | true =>
    subst h
    go_wp2
    go_ret
    exact ⟨rfl, b1⟩
  | false =>
    subst h
    go_wp2
    go_ret
    exact ⟨rfl, b1⟩

set_option maxRecDepth 100000 in
theorem knew_any (w : World) :
    Calls Try.prog 22 #[] w fun e w' => e = .returned (.agg #[.slice none 0 0, .int .i64 0, .int .i64 (-1), .bool false]) ∧ Below w.heap.size w w' := by
  go_enter Try.func22, Try.ntmps22
  go_wp2
  exact bodyPost_ret (v := .agg #[.slice none 0 0, .int .i64 0, .int .i64 (-1), .bool false]) (by simp [results, Try.results22, go_sem]) rfl ⟨rfl, by go_grown⟩

set_option maxRecDepth 100000 in
theorem kstarted_any (d : Dsk) (A : Option Addr) (n c : Nat) (a : Int) (hs : InD (d.st + 1)) (w : World) :
    Calls Try.prog 33 #[.agg #[.slice A n c, .int .i64 d.st, .int .i64 d.lf, .bool d.dd], .int .i64 a] w fun e w' => e = .returned (.agg #[.slice A n c, .int .i64 (d.st + 1), .int .i64 a, .bool false]) ∧ Below w.heap.size w w' := by
  obtain ⟨s0, s1⟩ := hs
  obtain ⟨z, hz⟩ : ∃ z, d.st + 1 = z := ⟨_, rfl⟩
  rw [hz] at s0 s1 ⊢
  go_enter Try.func33, Try.ntmps33
  go_wp2
  exact bodyPost_ret (v := .agg #[.slice A n c, .int .i64 z, .int .i64 a, .bool false]) (by simp [results, Try.results33, go_sem]) rfl ⟨rfl, by go_grown⟩
end Go.Proofs.Ytofnjdkfhboapaa
