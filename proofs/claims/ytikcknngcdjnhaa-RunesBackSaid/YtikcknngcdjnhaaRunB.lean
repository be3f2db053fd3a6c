/-
  The contracts of the reference's functions of layer 4: Check, Same, six, Bytes, head.
-/
import Derived.Test.YtikcknngcdjnhaaRunA
namespace Go.Proofs.Ytikcknngcdjnhaa
open Go.RowKit
set_option linter.unusedVariables false

set_option maxHeartbeats 400000 in
theorem refcheck_of (z : Int) (A : Option Addr) (n c : Nat) (l : List Int) (hn : Hid (l.length = n)) (hz : Hid (chk l = z)) (w : World) (hr : Ri w A c l) :
    Calls Try.prog 20 #[.slice A n c] w fun e w' => e = .returned (.int .i64 z) ∧ w = w' := by
  have hc2 : (c : Int) ≤ 9223372036854775807 := by have := hr.cap; omega
  have hc1 : (n : Int) ≤ c := by have := hr.len; have := hn.out; omega
  have HR := hid hr
  clear hr
  by_cases hb : 64 < n
  · have hb2 : (64 : Int) < n := by omega
    have H := hid (show z = 4 by rw [← hz.out]; exact chk_many (by rw [hn.out]; exact hb))
    go_enter Try.func20, Try.ntmps20
    go_wp2
    go_ret
    exact ⟨ret_int H.out.symm, rfl⟩
  · have hb2 : ¬ (64 : Int) < n := by omega
    have hb3 : ¬ 64 < l.length := by rw [hn.out]; exact hb
    have HB := hid hb3
    clear hb3
    go_enter Try.func20, Try.ntmps20
    go_wp2
    go_loop [3] (fun i => ∃ j : Nat, j ≤ n ∧ i = .int .i64 (j : Int) ∧ Hid ((l.take j).all okN = true)) (fun i => n - (intOf i).toNat)
    case atStart => exact ⟨0, by omega, rfl, hid rfl⟩
    case round =>
      obtain ⟨j, hj, rfl, hk⟩ := hrel
      by_cases hlt : j < n
      · have hl := hn.out
        obtain ⟨b, o, rfl, hcell⟩ := HR.out.at_ (by omega)
        have h1 := hcell j (by omega)
        have hs : (l.take (j + 1)).all okN = ((l.take j).all okN && okN (l[j]'(by omega))) := by
          rw [List.take_succ_eq_append_getElem (by omega), List.all_append]
          simp
        have hat := idxI_at (l := l) (j := j) (by omega) hk.out
        obtain ⟨hd0, hd1⟩ := HR.out.in32.at_ (j := j) (by omega)
        generalize l[j]'(by omega) = d at h1 hs hat hd0 hd1
        have hlt2 : (j : Int) < (n : Int) := by omega
        have HS := hid hs
        have HA := hid hat
        clear hs hcell hl hat
        by_cases hm : d = -1
        · have HD := hid (show okN d = true by subst hm; rfl)
          have hm2 : (d != -1) = false := by simpa using hm
          clear hm
          go_wp2_with fail
          go_round
          case rel => exact ⟨j + 1, by omega, by go_num, hid (by rw [HS.out, hk.out, HD.out]; rfl)⟩
          case measure => simp [intOf]; omega
        · have hm2 : (d != -1) = true := by simpa using hm
          have HO := hid (show okN d = isR d by simp [okN, hm])
          clear hm
          cases hd : isR d
          · have HD := hid hd
            go_wp2_with (go_at_call 33; refine (is_any _ _).mono ?_; rintro e w' ⟨rfl, rfl⟩)
            go_ret
            exact ⟨ret_int (by rw [← hz.out]; exact (chk_bad HB.out (HA.out (by rw [HO.out]; exact HD.out)).2).symm), rfl⟩
          · have HD := hid hd
            go_wp2_with (go_at_call 33; refine (is_any _ _).mono ?_; rintro e w' ⟨rfl, rfl⟩)
            go_round
            case rel => exact ⟨j + 1, by omega, by go_num, hid (by rw [HS.out, hk.out, HO.out, HD.out]; rfl)⟩
            case measure => simp [intOf]; omega
      · have ej : l.take j = l := List.take_of_length_le (by have := hn.out; omega)
        have hlt2 : ¬ (j : Int) < (n : Int) := by omega
        have HE := hid ej
        clear ej
        go_wp2
        go_ret
        exact ⟨ret_int (by rw [← hz.out]; exact (chk_ok HB.out (by rw [← HE.out]; exact hk.out)).symm), rfl⟩

/-- Whether two rows are one. -/
def sameI (l m : List Int) : Bool := l == m
theorem sameI_self (l : List Int) : sameI l l = true := by simp [sameI]

theorem same_no {l m : List Int} (h : l.length ≠ m.length) : sameI l m = false := by
  simp only [sameI, beq_eq_false_iff_ne, ne_eq]
  intro e
  exact h (by rw [e])
theorem same_at {l m : List Int} {j : Nat} (hl : j < l.length) (hm : j < m.length) (h : l[j] ≠ m[j]) : sameI l m = false := by
  simp only [sameI, beq_eq_false_iff_ne, ne_eq]
  rintro rfl
  exact h rfl

set_option maxHeartbeats 800000 in
theorem same_any (A : Option Addr) (n c : Nat) (l : List Int) (hn : Hid (l.length = n)) (B : Option Addr) (k d : Nat) (m : List Int) (hk : Hid (m.length = k)) (w : World) (hr : Ri w A c l) (hq : Ri w B d m) :
    Calls Try.prog 13 #[.slice A n c, .slice B k d] w fun e w' => e = .returned (.bool (sameI l m)) ∧ Below w.heap.size w w' := by
  have hc2 : (c : Int) ≤ 9223372036854775807 := by have := hr.cap; omega
  have hc1 : (n : Int) ≤ c := by have := hr.len; have := hn.out; omega
  have hd2 : (d : Int) ≤ 9223372036854775807 := by have := hq.cap; omega
  have hd1 : (k : Int) ≤ d := by have := hq.len; have := hk.out; omega
  by_cases hnk : n = k
  · subst hnk
    have HR := hid hr
    have HQ := hid hq
    clear hr hq
    go_enter Try.func13, Try.ntmps13
    go_wp2
    go_loopw [5] (fun i wr => ∃ j : Nat, j ≤ n ∧ i = .int .i64 (j : Int) ∧ Hid (l.take j = m.take j) ∧ Below w.heap.size w wr) (fun i _ => n - (intOf i).toNat)
    case atStart => exact ⟨0, by omega, rfl, hid rfl, Below.refl _ _⟩
    case round =>
      obtain ⟨j, hj, rfl, hz, hb⟩ := hrel
      by_cases hlt : j < n
      · have hl := hn.out
        have hm := hk.out
        obtain ⟨b, o, rfl, hcell⟩ := HR.out.at_ (by omega)
        obtain ⟨b1, o1, rfl, hcell1⟩ := HQ.out.at_ (by omega)
        have h1 := Past.all (keep hb (hcell j (by omega)))
        have h2 := Past.all (keep hb (hcell1 j (by omega)))
        have hs1 := List.take_succ_eq_append_getElem (l := l) (i := j) (by omega)
        have hs2 := List.take_succ_eq_append_getElem (l := m) (i := j) (by omega)
        have hat := same_at (l := l) (m := m) (j := j) (by omega) (by omega)
        generalize l[j]'(by omega) = x at h1 hs1 hat
        generalize m[j]'(by omega) = y at h2 hs2 hat
        have hlt2 : (j : Int) < (n : Int) := by omega
        have H1 := hid hs1
        have H2 := hid hs2
        have HA := hid hat
        clear hs1 hs2 hcell hcell1 hl hm hat
        by_cases hxy : x = y
        · have hxy2 : (x != y) = false := by simpa using hxy
          have HX := hid hxy
          clear hxy
          go_wp2_with fail
          refine wp_region_past (by kernel_rfl) (by kernel_rfl) ?_
          repeat (go_big_quiet_step (fail))
          refine wpQuiet_nil ?_
          rintro _ ⟨⟨w7, hx⟩, rfl⟩
          go_wp2
          go_roundw
          case rel => exact ⟨j + 1, by omega, by go_num, hid (by rw [H1.out, H2.out, hz.out, HX.out]), hb.trans (hx.mono hb.size)⟩
          case measure => simp [intOf]; omega
        · have hxy2 : (x != y) = true := by simpa using hxy
          have HX := hid hxy
          clear hxy
          go_wp2_with fail
          refine wp_region_past (by kernel_rfl) (by kernel_rfl) ?_
          repeat (go_big_quiet_step (fail))
          refine wpQuiet_nil ?_
          rintro _ ⟨⟨w7, hx⟩, rfl⟩
          go_wp2
          go_ret
          exact ⟨ret_bool (HA.out HX.out).symm, hb.trans (hx.mono hb.size)⟩
      · have e1 : l.take j = l := List.take_of_length_le (by have := hn.out; omega)
        have e2 : m.take j = m := List.take_of_length_le (by have := hk.out; omega)
        have hlt2 : ¬ (j : Int) < (n : Int) := by omega
        have HE := hid (show sameI l m = true by rw [← e1, hz.out, e2]; exact sameI_self m)
        clear e1 e2
        go_wp2
        go_ret
        exact ⟨ret_bool HE.out.symm, hb⟩
  · have H := hid (same_no (l := l) (m := m) (by rw [hn.out, hk.out]; exact hnk))
    have hnk2 : ¬ (n : Int) = k := by omega
    go_enter Try.func13, Try.ntmps13
    go_wp2
    go_ret
    exact ⟨ret_bool H.out.symm, Below.refl _ _⟩
theorem same_of (v : Bool) (A : Option Addr) (n c : Nat) (l : List Int) (hn : Hid (l.length = n)) (B : Option Addr) (k d : Nat) (m : List Int) (hk : Hid (m.length = k)) (hv : Hid (sameI l m = v)) (w : World) (hr : Ri w A c l) (hq : Ri w B d m) :
    Calls Try.prog 13 #[.slice A n c, .slice B k d] w fun e w' => e = .returned (.bool v) ∧ Below w.heap.size w w' := by
  have e := hv.out
  subst e
  exact same_any A n c l hn B k d m hk w hr hq

theorem six_of (n u v : Int) (k : Nat) (hu : Hid ((k : Int) = u)) (hv : Hid (128 + n / 64 ^ k % 64 = v)) (h0 : 0 ≤ n) (h1 : n < 4294967296) (hk : k ≤ 10) (w : World) :
    Calls Try.prog 43 #[.int .i64 n, .int .i64 u] w fun e w' => e = .returned (.int .u8 v) ∧ w = w' := by
  have eu := hu.out
  subst eu
  go_enter Try.func43, Try.ntmps43
  go_wp2
  go_loop [0, 5] (fun x i => ∃ j : Nat, j ≤ k ∧ i = .int .i64 (j : Int) ∧ ∃ z : Int, Hid (z = n / 64 ^ j) ∧ 0 ≤ z ∧ z < 4294967296 ∧ x = .int .i64 z) (fun _ i => k - (intOf i).toNat)
  case atStart => exact ⟨0, by omega, rfl, n, hid (by simp), h0, h1, rfl⟩
  case round =>
    obtain ⟨j, hj, rfl, z, hz, hz0, hz1, rfl⟩ := hrel
    by_cases hlt : j < k
    · have hlt2 : (j : Int) < (k : Int) := by omega
      have HZ := hid (show z / 64 = n / 64 ^ (j + 1) by rw [hz.out, Int.pow_succ, Int.ediv_ediv_of_nonneg (Int.pow_nonneg (by decide))])
      go_wp2
      go_round
      case rel => exact ⟨j + 1, by omega, by go_num, z / 64, HZ, by omega, by omega, rfl⟩
      case measure => simp [intOf]; omega
    · have hlt2 : ¬ (j : Int) < (k : Int) := by omega
      have ej : j = k := by omega
      subst ej
      go_wp2
      go_ret
      exact ⟨ret_int (by rw [← hv.out, ← hz.out]), rfl⟩

/-- The call hands back a slice of bytes that it made. -/
def RetRd (w : World) (l : List UInt8) (e : Ending) (w' : World) : Prop := ∃ A c, e = .returned (.slice A l.length c) ∧ Rd w' A c l ∧ Below w.heap.size w w'
theorem bts_cells (n : Int) : u8s (bts n) = (Lib.encodeRuneZ n).map fun x => Value.int .u8 x := Lib.byteCells_encodeRune n

theorem ret_made (w : World) (l : List UInt8) (L : Array Value) (k : Nat) (h : Hid ((u8s l).toArray = L ∧ l.length = k)) (hl : k ≤ 1000) : RetRd w l (.returned (.slice (some ⟨w.heap.size, 0, none⟩) k k)) (w.alloc (.cells L 5)) := by
  obtain ⟨rfl, rfl⟩ := h.out
  exact ⟨_, _, rfl, lit_rd w l hl, (Below.refl _ _).alloc (Nat.le_refl _) _⟩

set_option maxHeartbeats 800000 in
theorem refbytes_any (n : Int) (h : isR n = true) (w : World) :
    Calls Try.prog 35 #[.int .i64 n] w (RetRd w (bts n)) := by
  obtain ⟨h0, h1, h2⟩ := (isR_iff n).1 h
  clear h
  by_cases c1 : n < 128
  · have e := Lib.encodeRuneZ_one h0 (by omega)
    have H := hid (show (u8s (bts n)).toArray = #[.int .u8 n] ∧ (bts n).length = 1 from ⟨by rw [bts_cells, e]; rfl, by rw [← u8s_length, bts_cells, e]; rfl⟩)
    clear e h2
    go_enter Try.func35, Try.ntmps35
    go_wp2
    go_ret
    exact ret_made _ _ _ 1 H (by omega)
  by_cases c2 : n < 2048
  · have e := Lib.encodeRuneZ_two (r := n) (by omega) (by omega)
    have H := hid (show (u8s (bts n)).toArray = #[.int .u8 (192 + n / 64), .int .u8 (128 + n % 64)] ∧ (bts n).length = 2 from ⟨by rw [bts_cells, e]; rfl, by rw [← u8s_length, bts_cells, e]; rfl⟩)
    have S0 := fun w => six_of n 0 (128 + n % 64) 0 (hid rfl) (hid (by simp)) h0 (by omega) (by omega) w
    have HS := hid S0
    clear e h2 S0
    go_enter Try.func35, Try.ntmps35
    go_wp2_with (go_at_call 43; refine (HS.out _).mono ?_; rintro e w' ⟨rfl, rfl⟩)
    go_ret
    exact ret_made _ _ _ 2 H (by omega)
  by_cases c3 : n < 65536
  · have e := Lib.encodeRuneZ_three (r := n) (by omega)
    have H := hid (show (u8s (bts n)).toArray = #[.int .u8 (224 + n / 4096), .int .u8 (128 + n / 64 % 64), .int .u8 (128 + n % 64)] ∧ (bts n).length = 3 from ⟨by rw [bts_cells, e]; rfl, by rw [← u8s_length, bts_cells, e]; rfl⟩)
    have S0 := fun w => six_of n 0 (128 + n % 64) 0 (hid rfl) (hid (by simp)) h0 (by omega) (by omega) w
    have S1 := fun w => six_of n 1 (128 + n / 64 % 64) 1 (hid rfl) (hid (by simp)) h0 (by omega) (by omega) w
    have HS := hid S0
    have HT := hid S1
    clear e h2 S0 S1
    go_enter Try.func35, Try.ntmps35
    go_wp2_with fail
    refine (HT.out _).mono ?_
    rintro e w' ⟨rfl, rfl⟩
    go_wp2_with fail
    refine (HS.out _).mono ?_
    rintro e w' ⟨rfl, rfl⟩
    go_wp2
    go_ret
    exact ret_made _ _ _ 3 H (by omega)
  · have e := Lib.encodeRuneZ_four (r := n) (by omega) (by omega)
    have H := hid (show (u8s (bts n)).toArray = #[.int .u8 (240 + n / 262144), .int .u8 (128 + n / 4096 % 64), .int .u8 (128 + n / 64 % 64), .int .u8 (128 + n % 64)] ∧ (bts n).length = 4 from ⟨by rw [bts_cells, e]; rfl, by rw [← u8s_length, bts_cells, e]; rfl⟩)
    have S0 := fun w => six_of n 0 (128 + n % 64) 0 (hid rfl) (hid (by simp)) h0 (by omega) (by omega) w
    have S1 := fun w => six_of n 1 (128 + n / 64 % 64) 1 (hid rfl) (hid (by simp)) h0 (by omega) (by omega) w
    have S2 := fun w => six_of n 2 (128 + n / 4096 % 64) 2 (hid rfl) (hid (by simp)) h0 (by omega) (by omega) w
    have HS := hid S0
    have HT := hid S1
    have HU := hid S2
    clear e h2 S0 S1 S2
    go_enter Try.func35, Try.ntmps35
    go_wp2_with fail
    refine (HU.out _).mono ?_
    rintro e w' ⟨rfl, rfl⟩
    go_wp2_with fail
    refine (HT.out _).mono ?_
    rintro e w' ⟨rfl, rfl⟩
    go_wp2_with fail
    refine (HS.out _).mono ?_
    rintro e w' ⟨rfl, rfl⟩
    go_wp2
    go_ret
    exact ret_made _ _ _ 4 H (by omega)

set_option maxHeartbeats 800000 in
theorem head_any (c : Nat) (hc : c < 256) (w : World) :
    Calls Try.prog 42 #[.int .i64 (c : Int)] w fun e w' => e = .returned (.tuple #[.int .i64 ((hd c).1 : Int), .int .i64 ((hd c).2 : Int)]) ∧ w = w' := by
  have HC := hid hc
  by_cases c0 : c < 128
  · have H := hid (show hd c = (1, c) by simp [hd, c0])
    have t0 : (c : Int) < 128 := by omega
    go_enter Try.func42, Try.ntmps42
    go_wp2
    go_ret2
    exact ⟨by rw [H.out]; rfl, rfl⟩
  have t0 : ¬ (c : Int) < 128 := by omega
  by_cases c1 : c < 192
  · have H := hid (show hd c = (0, 0) by unfold hd; rw [if_neg (by omega), if_neg (by omega), if_neg (by omega), if_neg (by omega)])
    have t1 : ¬ (192 : Int) ≤ c := by omega
    have t2 : ¬ (224 : Int) ≤ c := by omega
    have t3 : ¬ (240 : Int) ≤ c := by omega
    go_enter Try.func42, Try.ntmps42
    go_wp2
    go_ret2
    exact ⟨by rw [H.out]; rfl, rfl⟩
  have t1 : (192 : Int) ≤ c := by omega
  by_cases c2 : c < 224
  · have H := hid (show hd c = (2, c - 192) by unfold hd; rw [if_neg (by omega), if_pos (by omega)])
    have t2 : (c : Int) < 224 := by omega
    have e := hid (show ((c - 192 : Nat) : Int) = (c : Int) - 192 by omega)
    go_enter Try.func42, Try.ntmps42
    go_wp2
    go_ret2
    exact ⟨by rw [H.out, e.out]; rfl, rfl⟩
  have t2 : ¬ (c : Int) < 224 := by omega
  have t3 : (224 : Int) ≤ c := by omega
  by_cases c3 : c < 240
  · have H := hid (show hd c = (3, c - 224) by unfold hd; rw [if_neg (by omega), if_neg (by omega), if_pos (by omega)])
    have t4 : (c : Int) < 240 := by omega
    have e := hid (show ((c - 224 : Nat) : Int) = (c : Int) - 224 by omega)
    go_enter Try.func42, Try.ntmps42
    go_wp2
    go_ret2
    exact ⟨by rw [H.out, e.out]; rfl, rfl⟩
  have t4 : ¬ (c : Int) < 240 := by omega
  have t5 : (240 : Int) ≤ c := by omega
  by_cases c4 : c < 248
  · have H := hid (show hd c = (4, c - 240) by unfold hd; rw [if_neg (by omega), if_neg (by omega), if_neg (by omega), if_pos (by omega)])
    have t6 : (c : Int) < 248 := by omega
    have e := hid (show ((c - 240 : Nat) : Int) = (c : Int) - 240 by omega)
    go_enter Try.func42, Try.ntmps42
    go_wp2
    go_ret2
    exact ⟨by rw [H.out, e.out]; rfl, rfl⟩
  · have H := hid (show hd c = (0, 0) by unfold hd; rw [if_neg (by omega), if_neg (by omega), if_neg (by omega), if_neg (by omega)])
    have t6 : ¬ (c : Int) < 248 := by omega
    go_enter Try.func42, Try.ntmps42
    go_wp2
    go_ret2
    exact ⟨by rw [H.out]; rfl, rfl⟩
end Go.Proofs.Ytikcknngcdjnhaa
