/-
  The document's own answers of layer 11: tell put together; SameBlocks; Great.
-/
import Derived.Test.YtndmblhkmgnpcaaGreatRcI
import Derived.Test.YtndmblhkmgnpcaaGreatRcJ
namespace Go.Proofs.YtndmblhkmgnpcaaGreat
open Go.RowKit
set_option linter.unusedVariables false
set_option linter.unusedSimpArgs false

theorem vl_two {l : List UInt8} {k : Nat} (h : k + 1 < l.length) : (vl ((l.drop k).take 2) : Int) = 256 * (l[k].toNat : Int) + (l[k + 1].toNat : Int) := by
  have h1 := vl_take (l := l.drop k) (j := 1) (by rw [List.length_drop]; omega)
  have h2 := vl_one (l := l) (k := k) (by omega)
  rw [h1]
  have e : (l.drop k)[1]'(by rw [List.length_drop]; omega) = l[k + 1] := by rw [List.getElem_drop]
  rw [e]
  omega
theorem rtell_of (A : Option Addr) (n c : Nat) (t : List UInt8) (hn : Hid (t.length = n)) (h9 : 119 ≤ n) (w : World) (hr : Rd w A c t) :
    Calls Tryz.prog 47 #[.slice A n c] w (RetTel w t) := by
  have hl := hn.out
  obtain ⟨b, o, rfl, hcell⟩ := hr.at_ (by omega)
  have v0 : (vl (t.take 1) : Int) = ((t[0]'(by omega)).toNat : Int) := by
    have := vl_one (l := t) (k := 0) (by omega)
    rw [List.drop_zero] at this
    rw [this]
  have c0 := hcell 0 (by omega)
  rw [Nat.add_zero] at c0
  have u0 := u8_int (t[0]'(by omega))
  obtain ⟨x0, hx0⟩ : ∃ x : Int, ((t[0]'(by omega)).toNat : Int) = x := ⟨_, rfl⟩
  rw [hx0] at v0 c0 u0
  have y0 : ∀ w', Below w.heap.size w w' → w'.cell? ⟨b, o, none⟩ = some (.int .u8 x0) := fun w' h => keep h c0
  by_cases k1 : x0 = 1
  · subst k1
    have v7 := vl_one (l := t) (k := 7) (by omega)
    exact rtell_1 b o n c t hn h9 w (okH ((t.drop 1).take 6)) _ _ _ _ (hid ⟨rfl, rfl, rfl, rfl⟩) (hid (by rw [v7])) (fun w' h => keep h (hcell 7 (by omega))) hr (hid v0) y0
  by_cases k2 : x0 = 2
  · subst k2
    exact rtell_2 b o n c t hn h9 w _ _ (hid (vl_two (l := t) (k := 1) (by omega))) (u8_int _) (u8_int _) (fun w' h => keep h (hcell 1 (by omega))) (fun w' h => keep h (hcell 2 (by omega))) hr (hid v0) y0
  by_cases k3 : x0 = 3
  · subst k3
    exact rtell_3 b o n c t hn h9 w (okG ((t.drop 1).take 7)) _ _ _ _ (hid ⟨rfl, rfl⟩) hr (hid v0) y0
  · exact rtell_0 b o n c t hn h9 w x0 u0 k1 k2 k3 hr (hid v0) y0

set_option maxRecDepth 100000 in
set_option maxHeartbeats 1600000 in
theorem rsameB_of (v : Bool) (a : List (List UInt8)) (A : Option Addr) (n c : Nat) (hn : Hid (a.length = n)) (b : List (List UInt8)) (B : Option Addr) (m d : Nat) (hm : Hid (b.length = m)) (hv : Hid ((a == b) = v)) (w : World) (hr : RdB w A c a) (hs : RdB w B d b) :
    Calls Tryz.prog 22 #[.slice A n c, .slice B m d] w fun e w' => e = .returned (.bool v) ∧ Below w.heap.size w w' := by
  go_enter Tryz.func22, Tryz.ntmps22
  go_wp2_with fail
  refine (rsameb_of v a A n c hn b B m d hm hv _ hr hs).mono ?_
  rintro e w1 ⟨rfl, b1⟩
  go_wp2
  go_ret
  exact ⟨rfl, b1⟩

def lenS (L : List (List UInt8)) : Nat := (L.map fun x => min x.length 10000).sum
theorem lenS_step (L : List (List UInt8)) (j : Nat) (hj : j < L.length) : lenS (L.take (j + 1)) = lenS (L.take j) + min L[j].length 10000 := by
  rw [List.take_succ_eq_append_getElem hj, lenS, List.map_append, List.sum_append]
  simp [lenS]
def greatL (L : List (List UInt8)) : Bool := decide (40 < L.length) || decide (10000 < lenS (L.take 50))
set_option maxRecDepth 100000 in
set_option maxHeartbeats 3200000 in
theorem rcgreat_of (q : Bool) (L : List (List UInt8)) (A : Option Addr) (n c : Nat) (hn : Hid (L.length = n)) (hq : Hid (greatL L = q)) (w : World) (hr : RdB w A c L) :
    Calls Tryz.prog 15 #[.slice A n c] w fun e w' => e = .returned (.bool q) ∧ Below w.heap.size w w' := by
  have hc2 : (c : Int) ≤ 9223372036854775807 := by have := hr.cap; omega
  have hc1 : (n : Int) ≤ c := by have := hr.len; have := hn.out; omega
  have HR := hid hr
  clear hr
  go_enter Tryz.func15, Tryz.ntmps15
  go_wp2
  go_loopw [3, 4] (fun v i wr => ∃ (j : Nat) (s : Int), j ≤ n ∧ j ≤ 50 ∧ v = .int .i64 s ∧ i = .int .i64 (j : Int) ∧ Hid ((lenS (L.take j) : Int) = s) ∧ 0 ≤ s ∧ s ≤ j * 10000 ∧ wr = w) (fun _ i _ => n - (intOf i).toNat)
  case atStart => exact ⟨0, 0, by omega, by omega, rfl, rfl, hid (by simp [lenS]), by omega, by omega, rfl⟩
  case round =>
    obtain ⟨j, s, hj, hj5, rfl, rfl, hs, s0, s1, rfl⟩ := hrel
    by_cases hgo : j < n ∧ j < 50
    · obtain ⟨hjn, hj50⟩ := hgo
      have hlt2 : (j : Int) < (n : Int) := by omega
      have hlt3 : (j : Int) < 50 := by omega
      have hjl : j < L.length := by rw [hn.out]; exact hjn
      obtain ⟨b, o, rfl, hcell⟩ := HR.out.at_ (by omega)
      obtain ⟨B, d, hc, hB⟩ := hcell j hjl
      have hst := lenS_step L j hjl
      obtain ⟨p, hp⟩ : ∃ p, L[j].length = p := ⟨_, rfl⟩
      rw [hp] at hc hst
      obtain ⟨y, hy⟩ : ∃ y : Int, ((min p 10000 : Nat) : Int) = y := ⟨_, rfl⟩
      have hmin : ∀ (ts : Array TypeId) (ty : TypeId) (W : World), (Builtin.min_ ts ty #[.int .i64 (p : Int), .int .i64 10000]).run Tryz.prog W = .ok (.int .i64 y) W := fun ts ty W => by
        rw [run_min_int2]
        have e : (if (10000 : Int) < (p : Int) then (10000 : Int) else (p : Int)) = y := by split <;> omega
        rw [e]
      have y0 : 0 ≤ y := by omega
      have y1 : y ≤ 10000 := by omega
      have HS := hid (show (lenS (L.take (j + 1)) : Int) = s + y by rw [hst]; have := hs.out; omega)
      clear hcell hB hst hp hy hs hjl
      go_wp2
      go_roundw
      case rel => exact ⟨j + 1, s + y, by omega, by omega, rfl, by go_num, HS, by omega, by omega, by first | rfl | trivial⟩
      case measure => simp [intOf]; omega
    · have hq' := hq.out
      have e : L.take 50 = L.take j := by
        rcases Nat.lt_or_ge j n with h | h
        · have : j = 50 := by omega
          rw [this]
        · have : j = n := by omega
          rw [List.take_of_length_le (by rw [hn.out]; omega), List.take_of_length_le (by rw [hn.out]; omega)]
      rw [greatL, e, hn.out] at hq'
      have hd : decide (10000 < lenS (L.take j)) = decide ((10000 : Int) < s) := by
        have := hs.out
        by_cases h : 10000 < lenS (L.take j)
        · rw [decide_eq_true h, decide_eq_true (by omega)]
        · rw [decide_eq_false h, decide_eq_false (by omega)]
      rw [hd] at hq'
      have hd2 : decide (40 < n) = decide ((40 : Int) < (n : Int)) := by
        by_cases h : 40 < n
        · rw [decide_eq_true h, decide_eq_true (by omega)]
        · rw [decide_eq_false h, decide_eq_false (by omega)]
      rw [hd2] at hq'
      have HQ := hid hq'
      clear hq hs e hd hd2 hq'
      by_cases hjn : j < n
      · have hlt2 : (j : Int) < (n : Int) := by omega
        have hlt3 : ¬ (j : Int) < 50 := by omega
        by_cases h40 : (40 : Int) < (n : Int) <;> by_cases h10 : (10000 : Int) < s
        all_goals
          go_wp2
          go_ret
          exact ⟨ret_bool (by rw [← HQ.out]; simp [h40, h10]), Below.refl _ _⟩
      · have hlt2 : ¬ (j : Int) < (n : Int) := by omega
        by_cases h40 : (40 : Int) < (n : Int) <;> by_cases h10 : (10000 : Int) < s
        all_goals
          go_wp2
          go_ret
          exact ⟨ret_bool (by rw [← HQ.out]; simp [h40, h10]), Below.refl _ _⟩
end Go.Proofs.YtndmblhkmgnpcaaGreat
