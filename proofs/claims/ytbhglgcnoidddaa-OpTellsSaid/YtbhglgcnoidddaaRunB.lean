/-
  The contracts of the reference's functions of layer 4: Check, Same, six, Bytes, head.
-/
import Derived.Test.YtbhglgcnoidddaaRunA
namespace Go.Proofs.Ytbhglgcnoidddaa
open Go.RowKit
set_option linter.unusedVariables false

set_option maxHeartbeats 400000 in
theorem refcheck_of (z : Int) (A : Option Addr) (n c : Nat) (l : List Int) (hn : Hid (l.length = n)) (hz : Hid (chk l = z)) (w : World) (hr : Ri w A c l) :
    Calls Try.prog 67 #[.slice A n c] w fun e w' => e = .returned (.int .i64 z) ∧ w = w' := by
  have hc2 : (c : Int) ≤ 9223372036854775807 := by have := hr.cap; omega
  have hc1 : (n : Int) ≤ c := by have := hr.len; have := hn.out; omega
  have HR := hid hr
  clear hr
  by_cases hb : 64 < n
  · have hb2 : (64 : Int) < n := by omega
    have H := hid (show z = 4 by rw [← hz.out]; exact chk_many (by rw [hn.out]; exact hb))
    go_enter Try.func67, Try.ntmps67
    go_wp2
    go_ret
    exact ⟨ret_int H.out.symm, rfl⟩
  · have hb2 : ¬ (64 : Int) < n := by omega
    have hb3 : ¬ 64 < l.length := by rw [hn.out]; exact hb
    have HB := hid hb3
    clear hb3
    go_enter Try.func67, Try.ntmps67
    go_wp2
    go_loop [3] (fun i => ∃ j : Nat, j ≤ n ∧ i = .int .i64 (j : Int) ∧ Hid ((l.take j).all okN = true)) (fun i => n - (intOf i).toNat)
    case atStart => exact ⟨0, by omega, rfl, hid rfl⟩
    case round =>
      obtain ⟨j, hj, rfl, hk⟩ := hrel
      by_cases hlt : j < n
      · have hl := hn.out
        obtain ⟨b, o, rfl, hcell⟩ := HR.out.at_ (by omega)
        have h1 := hcell j (by omega)
        have hs : (l.take (j + 1)).all okN = ((l.take j).all okN && okN (l[j]'(by omega))) := by
          rw [List.take_succ_eq_append_getElem (by omega), List.all_append]
          simp
        have hat := idxI_at (l := l) (j := j) (by omega) hk.out
        obtain ⟨hd0, hd1⟩ := HR.out.in32.at_ (j := j) (by omega)
        generalize l[j]'(by omega) = d at h1 hs hat hd0 hd1
        have hlt2 : (j : Int) < (n : Int) := by omega
        have HS := hid hs
        have HA := hid hat
        clear hs hcell hl hat
        by_cases hm : d = -1
        · have HD := hid (show okN d = true by subst hm; rfl)
          have hm2 : (d != -1) = false := by simpa using hm
          clear hm
          go_wp2_with fail
          go_round
          case rel => exact ⟨j + 1, by omega, by go_num, hid (by rw [HS.out, hk.out, HD.out]; rfl)⟩
          case measure => simp [intOf]; omega
        · have hm2 : (d != -1) = true := by simpa using hm
          have HO := hid (show okN d = isR d by simp [okN, hm])
          clear hm
          cases hd : isR d
          · have HD := hid hd
            go_wp2_with (go_at_call 72; refine (is_any _ _).mono ?_; rintro e w' ⟨rfl, rfl⟩)
            go_ret
            exact ⟨ret_int (by rw [← hz.out]; exact (chk_bad HB.out (HA.out (by rw [HO.out]; exact HD.out)).2).symm), rfl⟩
          · have HD := hid hd
            go_wp2_with (go_at_call 72; refine (is_any _ _).mono ?_; rintro e w' ⟨rfl, rfl⟩)
            go_round
            case rel => exact ⟨j + 1, by omega, by go_num, hid (by rw [HS.out, hk.out, HO.out, HD.out]; rfl)⟩
            case measure => simp [intOf]; omega
      · have ej : l.take j = l := List.take_of_length_le (by have := hn.out; omega)
        have hlt2 : ¬ (j : Int) < (n : Int) := by omega
        have HE := hid ej
        clear ej
        go_wp2
        go_ret
        exact ⟨ret_int (by rw [← hz.out]; exact (chk_ok HB.out (by rw [← HE.out]; exact hk.out)).symm), rfl⟩

/-- Whether two rows are one. -/
def sameRow (l m : List Int) : Bool := l == m
theorem sameRow_self (l : List Int) : sameRow l l = true := by simp [sameRow]

theorem same_no {l m : List Int} (h : l.length ≠ m.length) : sameRow l m = false := by
  simp only [sameRow, beq_eq_false_iff_ne, ne_eq]
  intro e
  exact h (by rw [e])
theorem same_at {l m : List Int} {j : Nat} (hl : j < l.length) (hm : j < m.length) (h : l[j] ≠ m[j]) : sameRow l m = false := by
  simp only [sameRow, beq_eq_false_iff_ne, ne_eq]
  rintro rfl
  exact h rfl

set_option maxHeartbeats 800000 in
theorem same_any (A : Option Addr) (n c : Nat) (l : List Int) (hn : Hid (l.length = n)) (B : Option Addr) (k d : Nat) (m : List Int) (hk : Hid (m.length = k)) (w : World) (hr : Ri w A c l) (hq : Ri w B d m) :
    Calls Try.prog 38 #[.slice A n c, .slice B k d] w fun e w' => e = .returned (.bool (sameRow l m)) ∧ Below w.heap.size w w' := by
  have hc2 : (c : Int) ≤ 9223372036854775807 := by have := hr.cap; omega
  have hc1 : (n : Int) ≤ c := by have := hr.len; have := hn.out; omega
  have hd2 : (d : Int) ≤ 9223372036854775807 := by have := hq.cap; omega
  have hd1 : (k : Int) ≤ d := by have := hq.len; have := hk.out; omega
  by_cases hnk : n = k
  · subst hnk
    have HR := hid hr
    have HQ := hid hq
    clear hr hq
    go_enter Try.func38, Try.ntmps38
    go_wp2
    go_loopw [5] (fun i wr => ∃ j : Nat, j ≤ n ∧ i = .int .i64 (j : Int) ∧ Hid (l.take j = m.take j) ∧ Below w.heap.size w wr) (fun i _ => n - (intOf i).toNat)
    case atStart => exact ⟨0, by omega, rfl, hid rfl, Below.refl _ _⟩
    case round =>
      obtain ⟨j, hj, rfl, hz, hb⟩ := hrel
      by_cases hlt : j < n
      · have hl := hn.out
        have hm := hk.out
        obtain ⟨b, o, rfl, hcell⟩ := HR.out.at_ (by omega)
        obtain ⟨b1, o1, rfl, hcell1⟩ := HQ.out.at_ (by omega)
        have h1 := Past.all (keep hb (hcell j (by omega)))
        have h2 := Past.all (keep hb (hcell1 j (by omega)))
        have hs1 := List.take_succ_eq_append_getElem (l := l) (i := j) (by omega)
        have hs2 := List.take_succ_eq_append_getElem (l := m) (i := j) (by omega)
        have hat := same_at (l := l) (m := m) (j := j) (by omega) (by omega)
        generalize l[j]'(by omega) = x at h1 hs1 hat
        generalize m[j]'(by omega) = y at h2 hs2 hat
        have hlt2 : (j : Int) < (n : Int) := by omega
        have H1 := hid hs1
        have H2 := hid hs2
        have HA := hid hat
        clear hs1 hs2 hcell hcell1 hl hm hat
        by_cases hxy : x = y
        · have hxy2 : (x != y) = false := by simpa using hxy
          have HX := hid hxy
          clear hxy
          go_wp2_with fail
          refine wp_region_past (by kernel_rfl) (by kernel_rfl) ?_
          repeat (go_big_quiet_step (fail))
          refine wpQuiet_nil ?_
          rintro _ ⟨⟨w7, hx⟩, rfl⟩
          go_wp2
          go_roundw
          case rel => exact ⟨j + 1, by omega, by go_num, hid (by rw [H1.out, H2.out, hz.out, HX.out]), hb.trans (hx.mono hb.size)⟩
          case measure => simp [intOf]; omega
        · have hxy2 : (x != y) = true := by simpa using hxy
          have HX := hid hxy
          clear hxy
          go_wp2_with fail
          refine wp_region_past (by kernel_rfl) (by kernel_rfl) ?_
          repeat (go_big_quiet_step (fail))
          refine wpQuiet_nil ?_
          rintro _ ⟨⟨w7, hx⟩, rfl⟩
          go_wp2
          go_ret
          exact ⟨ret_bool (HA.out HX.out).symm, hb.trans (hx.mono hb.size)⟩
      · have e1 : l.take j = l := List.take_of_length_le (by have := hn.out; omega)
        have e2 : m.take j = m := List.take_of_length_le (by have := hk.out; omega)
        have hlt2 : ¬ (j : Int) < (n : Int) := by omega
        have HE := hid (show sameRow l m = true by rw [← e1, hz.out, e2]; exact sameRow_self m)
        clear e1 e2
        go_wp2
        go_ret
        exact ⟨ret_bool HE.out.symm, hb⟩
  · have H := hid (same_no (l := l) (m := m) (by rw [hn.out, hk.out]; exact hnk))
    have hnk2 : ¬ (n : Int) = k := by omega
    go_enter Try.func38, Try.ntmps38
    go_wp2
    go_ret
    exact ⟨ret_bool H.out.symm, Below.refl _ _⟩
theorem same_of (v : Bool) (A : Option Addr) (n c : Nat) (l : List Int) (hn : Hid (l.length = n)) (B : Option Addr) (k d : Nat) (m : List Int) (hk : Hid (m.length = k)) (hv : Hid (sameRow l m = v)) (w : World) (hr : Ri w A c l) (hq : Ri w B d m) :
    Calls Try.prog 38 #[.slice A n c, .slice B k d] w fun e w' => e = .returned (.bool v) ∧ Below w.heap.size w w' := by
  have e := hv.out
  subst e
  exact same_any A n c l hn B k d m hk w hr hq

/-- The call hands back a slice of bytes that it made. -/
def RetRd (w : World) (l : List UInt8) (e : Ending) (w' : World) : Prop := ∃ A c, e = .returned (.slice A l.length c) ∧ Rd w' A c l ∧ Below w.heap.size w w'

/-- The call hands back a row that it made, and an error. -/
def RetRow (w : World) (l : List Int) (z : Int) (e : Ending) (w' : World) : Prop := ∃ A c, e = .returned (.tuple #[.slice A l.length c, .int .i64 z]) ∧ Ri w' A c l ∧ Below w.heap.size w w'
theorem ret_row {w w' : World} {A : Option Addr} {n c : Nat} {q l : List Int} {y z : Int} (h : Hid (q = l ∧ y = z ∧ q.length = n)) (hr : Ri w' A c q) (hb : Below w.heap.size w w') : RetRow w l z (.returned (.tuple #[.slice A n c, .int .i64 y])) w' := by
  obtain ⟨rfl, rfl, rfl⟩ := h.out
  exact ⟨A, c, rfl, hr, hb⟩
theorem ret_row_nil {w w' : World} {l : List Int} {y z : Int} (h : Hid (y = z ∧ l = [])) (hb : Below w.heap.size w w') : RetRow w l z (.returned (.tuple #[.slice none 0 0, .int .i64 y])) w' :=
  ret_row (q := []) (hid ⟨h.out.2.symm, h.out.1, rfl⟩) (Ri.nil _) hb

/-- The call hands back bytes that it made, and an error. -/
def RetPut (w : World) (l : List UInt8) (z : Int) (e : Ending) (w' : World) : Prop := ∃ A c, e = .returned (.tuple #[.slice A l.length c, .int .i64 z]) ∧ Rd w' A c l ∧ Below w.heap.size w w'
theorem ret_put {w w' : World} {A : Option Addr} {n c : Nat} {q l : List UInt8} {y z : Int} (h : Hid (q = l ∧ y = z ∧ q.length = n)) (hr : Rd w' A c q) (hb : Below w.heap.size w w') : RetPut w l z (.returned (.tuple #[.slice A n c, .int .i64 y])) w' := by
  obtain ⟨rfl, rfl, rfl⟩ := h.out
  exact ⟨A, c, rfl, hr, hb⟩
theorem ret_put_nil {w w' : World} {l : List UInt8} {y z : Int} (h : Hid (y = z ∧ l = [])) (hb : Below w.heap.size w w') : RetPut w l z (.returned (.tuple #[.slice none 0 0, .int .i64 y])) w' :=
  ret_put (q := []) (hid ⟨h.out.2.symm, h.out.1, rfl⟩) (Rd.nil _) hb

end Go.Proofs.Ytbhglgcnoidddaa
