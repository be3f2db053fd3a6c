/-
  The program's own answers of layer 12: Same.
-/
import Derived.Test.YtofnjdkfhboapaaDpH
import Derived.Test.YtofnjdkfhboapaaDkH
namespace Go.Proofs.Ytofnjdkfhboapaa
open Go.RowKit
set_option linter.unusedVariables false
set_option linter.unusedSimpArgs false

theorem bequal_of (q : Bool) (A : Option Addr) (n c : Nat) (l : List UInt8) (hn : Hid (l.length = n)) (B : Option Addr) (k d : Nat) (m : List UInt8) (hk : Hid (m.length = k)) (hq : Hid ((l == m) = q)) (w : World) (hr : Rd w A c l) (hs : Rd w B d m) :
    Calls Try.prog 44 #[.slice A n c, .slice B k d] w fun e w' => e = .returned (.bool q) ∧ w = w' := by
  have y1 := rd_string hn hr
  have y2 := rd_string hk hs
  clear hr hs
  go_enter Try.func44, Try.ntmps44
  go_wp2
  go_ret
  exact ⟨ret_bool (by rw [← hq.out]), rfl⟩

set_option maxHeartbeats 800000 in
theorem sameSector_of (q : Bool) (x : Int) (A : Option Addr) (n c : Nat) (l : List UInt8) (hn : Hid (l.length = n)) (z : Int) (B : Option Addr) (k d : Nat) (m : List UInt8) (hk : Hid (m.length = k)) (hq : Hid (((x == z) && (l == m)) = q)) (w : World) (hr : Rd w A c l) (hs : Rd w B d m) :
    Calls Try.prog 38 #[.agg #[.int .i64 x, .slice A n c], .agg #[.int .i64 z, .slice B k d]] w fun e w' => e = .returned (.bool q) ∧ Below w.heap.size w w' := by
  obtain ⟨u, hu⟩ : ∃ u, (l == m) = u := ⟨_, rfl⟩
  obtain ⟨t, ht⟩ : ∃ t, (x == z) = t := ⟨_, rfl⟩
  have h := hq.out
  rw [hu, ht] at h
  have HU := hid hu
  have hb : Below w.heap.size w ((w.alloc (.cells #[.int .i64 x, .slice A n c] 56)).alloc (.cells #[.int .i64 z, .slice B k d] 56)) := below_in (below1 w _) (below1 _ _)
  have HR := hid (hr.keep hb)
  have HS := hid (hs.keep hb)
  clear hr hs hq hu
  go_enter Try.func38, Try.ntmps38
  cases t with
  | false =>
    obtain rfl : false = q := by simpa using h
    go_wp2
    go_ret
    exact ⟨rfl, hb⟩
  | true =>
    obtain rfl : u = q := by simpa using h
    go_wp2_with (go_at_call 44; refine (bequal_of u A n c l hn B k d m hk HU _ HR.out HS.out).mono ?_; rintro e w1 ⟨rfl, rfl⟩)
    go_ret
    exact ⟨rfl, hb⟩

set_option maxRecDepth 100000 in
set_option maxHeartbeats 1600000 in
theorem equalS_of (v : Bool) (a : List Sct) (A : Option Addr) (n c : Nat) (hn : Hid (a.length = n)) (b : List Sct) (B : Option Addr) (m d : Nat) (hm : Hid (b.length = m)) (hv : Hid (sameS a b = v)) (w : World) (hr : RdS w A c a) (hs : RdS w B d b) :
    Calls Try.prog 37 #[.slice A n c, .slice B m d, .func (.func 38) #[] #[]] w fun e w' => e = .returned (.bool v) ∧ Below w.heap.size w w' := by
  have hc2 : (c : Int) ≤ 9223372036854775807 := by have := hr.cap; omega
  have hc1 : (n : Int) ≤ c := by have := hr.len; have := hn.out; omega
  have hd2 : (d : Int) ≤ 9223372036854775807 := by have := hs.cap; omega
  have hd1 : (m : Int) ≤ d := by have := hs.len; have := hm.out; omega
  have HR := hid hr
  have HS := hid hs
  clear hr hs
  by_cases hnm : n = m
  · subst hnm
    go_enter Try.func37, Try.ntmps37
    go_wp2
    go_loopw [17] (fun i wr => ∃ (j : Nat), j ≤ n ∧ i = .int .i64 (j : Int) ∧ Hid (∀ i (h1 : i < a.length) (h2 : i < b.length), i < j → a[i] = b[i]) ∧ Below w.heap.size w wr) (fun i _ => n - (intOf i).toNat)
    case atStart => exact ⟨0, by omega, rfl, hid (fun i _ _ h => absurd h (by omega)), Below.refl _ _⟩
    case round =>
      obtain ⟨j, hj, rfl, hz, hb⟩ := hrel
      by_cases hlt : j < n
      · have hlt2 : (j : Int) < (n : Int) := by omega
        have hln := hn.out
        have hlm := hm.out
        obtain ⟨b1, o1, rfl, hcell⟩ := (HR.out.keep hb).at_ (by omega)
        obtain ⟨b2, o2, rfl, hcell'⟩ := (HS.out.keep hb).at_ (by omega)
        obtain ⟨X, x, y0, y1, hRX⟩ := hcell j (by omega)
        obtain ⟨Y, y, u0, u1, hRY⟩ := hcell' j (by omega)
        have HNO := hid (fun (h : a[j]'(by omega) ≠ b[j]'(by omega)) => sameS_no (l := a) (m := b) (j := j) (by omega) (by omega) h)
        have HST := hid (fun (h : a[j]'(by omega) = b[j]'(by omega)) => (show ∀ i (h1 : i < a.length) (h2 : i < b.length), i < j + 1 → a[i] = b[i] from fun i h1 h2 hi => by
          rcases Nat.lt_or_ge i j with h3 | h3
          · exact hz.out i h1 h2 h3
          · obtain rfl : i = j := by omega
            exact h))
        generalize a[j]'(by omega) = s at y0 y1 hRX HNO HST
        generalize b[j]'(by omega) = t at u0 u1 hRY HNO HST
        obtain ⟨z, l⟩ := s
        obtain ⟨z2, l2⟩ := t
        simp only at y0 y1 hRX u0 u1 hRY
        obtain ⟨p, hp⟩ : ∃ p, l.length = p := ⟨_, rfl⟩
        obtain ⟨q, hq⟩ : ∃ q, l2.length = q := ⟨_, rfl⟩
        rw [hp] at y1
        rw [hq] at u1
        have HP := hid hp
        have HQ := hid hq
        obtain ⟨u, hu⟩ : ∃ u, ((z == z2) && (l == l2)) = u := ⟨_, rfl⟩
        have HU := hid hu
        have hbA : Below wr.heap.size wr ((wr.alloc (.cells #[.int .i64 z, .slice X p x] 56)).alloc (.cells #[.int .i64 z2, .slice Y q y] 56)) := below_in (below1 wr _) (below1 _ _)
        have HX := hid (hRX.keep hbA)
        have HY := hid (hRY.keep hbA)
        have hbB := below_in hb hbA
        have v0 := keep (below1 wr (.cells #[.int .i64 z, .slice X p x] 56)) u0
        have v1 := keep (below1 wr (.cells #[.int .i64 z, .slice X p x] 56)) u1
        clear hcell hcell' hp hq hln hlm hRX hRY hz hu hbA
        go_wp2_with fail
        refine (sameSector_of u z X p x l HP z2 Y q y l2 HQ HU _ HX.out HY.out).mono ?_
        rintro e w1 ⟨rfl, b1'⟩
        have hb1 := below_in hbB b1'
        cases u
        · have hE : v = false := by
            rw [← hv.out]
            refine HNO.out fun h => ?_
            injection h with h1 h2
            have := HU.out
            rw [h1, h2] at this
            simp at this
          subst hE
          clear HNO HST hv
          go_wp2
          go_ret
          exact ⟨rfl, hb1⟩
        · have HZ2 := hid (HST.out (by
            have := HU.out
            simp at this
            rw [this.1, this.2]))
          clear HNO HST
          go_wp2_with fail
          go_roundw
          case rel => exact ⟨j + 1, by omega, by go_num, HZ2, hb1⟩
          case measure => simp [intOf]; omega
      · have hlt2 : ¬ (j : Int) < (n : Int) := by omega
        have hE : sameS a b = true := by
          have e : a = b := List.ext_getElem (by rw [hn.out, hm.out]) fun i h1 h2 => hz.out i h1 h2 (by have := hn.out; omega)
          rw [e]; exact sameS_self _
        clear hz
        go_wp2
        go_ret
        exact ⟨ret_bool (by rw [← hv.out]; exact hE.symm), hb⟩
  · have d2 : ((n : Int) != (m : Int)) = true := by simpa using (show ¬ (n : Int) = (m : Int) by omega)
    have hE : sameS a b = false := sameS_len (by rw [hn.out, hm.out]; exact hnm)
    go_enter Try.func37, Try.ntmps37
    go_wp2
    go_ret
    exact ⟨ret_bool (by rw [← hv.out]; exact hE.symm), Below.refl _ _⟩

set_option maxRecDepth 100000 in
set_option maxHeartbeats 1600000 in
theorem dsame_of (v : Bool) (a : Dsk) (A : Option Addr) (n c : Nat) (hn : Hid (a.se.length = n)) (b : Dsk) (B : Option Addr) (m d : Nat) (hm : Hid (b.se.length = m)) (hv : Hid (sameK a b = v)) (w : World) (hr : RdS w A c a.se) (hs : RdS w B d b.se) :
    Calls Try.prog 23 #[.agg #[.slice A n c, .int .i64 a.st, .int .i64 a.lf, .bool a.dd], .agg #[.slice B m d, .int .i64 b.st, .int .i64 b.lf, .bool b.dd]] w fun e w' => e = .returned (.bool v) ∧ Below w.heap.size w w' := by
  obtain ⟨xa, xb, hb0⟩ := box2_new w a A n c b B m d
  obtain ⟨q0, h0⟩ : ∃ q, sameS a.se b.se = q := ⟨_, rfl⟩
  obtain ⟨q1, h1⟩ : ∃ q, (a.st == b.st) = q := ⟨_, rfl⟩
  obtain ⟨q2, h2⟩ : ∃ q, (a.lf == b.lf) = q := ⟨_, rfl⟩
  obtain ⟨q3, h3⟩ : ∃ q, (a.dd == b.dd) = q := ⟨_, rfl⟩
  have h := hv.out
  rw [sameK, h0, h1, h2, h3] at h
  have H0 := hid h0
  have HQ := hid h
  have HR := hid (hr.keep hb0)
  have HS := hid (hs.keep hb0)
  clear hv h h0 hr hs
  go_enter Try.func23, Try.ntmps23
  cases q1 with
  | false =>
    obtain rfl : false = v := by simpa using HQ.out
    go_wp2
    go_ret
    exact ⟨rfl, hb0⟩
  | true =>
    cases q2 with
    | false =>
      obtain rfl : false = v := by simpa using HQ.out
      go_wp2
      go_ret
      exact ⟨rfl, hb0⟩
    | true =>
      cases q3 with
      | false =>
        obtain rfl : false = v := by simpa using HQ.out
        go_wp2
        go_ret
        exact ⟨rfl, hb0⟩
      | true =>
        obtain rfl : q0 = v := by simpa using HQ.out
        go_wp2_with fail
        refine (equalS_of q0 a.se A n c hn b.se B m d hm H0 _ HR.out HS.out).mono ?_
        rintro e w1 ⟨rfl, b1⟩
        have hb1 := below_in hb0 b1
        go_wp2
        go_ret
        exact ⟨rfl, hb1⟩
end Go.Proofs.Ytofnjdkfhboapaa
