/-
  Two operations held against each other: the document's own Same.
-/
import Derived.Test.YtndmblhkmgnpcaaGreatOP
import Derived.Test.YtndmblhkmgnpcaaGreatRH
namespace Go.Proofs.YtndmblhkmgnpcaaGreat
open Go.RowKit
set_option linter.unusedVariables false
set_option linter.unusedSimpArgs false


set_option maxHeartbeats 800000 in
theorem equal_any (A : Option Addr) (n c : Nat) (l : List Int) (hn : Hid (l.length = n)) (B : Option Addr) (k d : Nat) (m : List Int) (hk : Hid (m.length = k)) (w : World) (hr : Ri w A c l) (hq : Ri w B d m) :
    Calls Tryz.prog 76 #[.slice A n c, .slice B k d] w fun e w' => e = .returned (.bool (sameRow l m)) ∧ Below w.heap.size w w' := by
  have hc2 : (c : Int) ≤ 9223372036854775807 := by have := hr.cap; omega
  have hc1 : (n : Int) ≤ c := by have := hr.len; have := hn.out; omega
  have hd2 : (d : Int) ≤ 9223372036854775807 := by have := hq.cap; omega
  have hd1 : (k : Int) ≤ d := by have := hq.len; have := hk.out; omega
  by_cases hnk : n = k
  · subst hnk
    have HR := hid hr
    have HQ := hid hq
    clear hr hq
    go_enter Tryz.func76, Tryz.ntmps76
    go_wp2
    go_loopw [5, 13] (fun x5 i wr => ∃ j : Nat, j ≤ n ∧ i = .int .i64 (j : Int) ∧ Hid (l.take j = m.take j) ∧ Below w.heap.size w wr) (fun _ i _ => n - (intOf i).toNat)
    case atStart => exact ⟨0, by omega, rfl, hid rfl, Below.refl _ _⟩
    case round =>
      obtain ⟨j, hj, rfl, hz, hb⟩ := hrel
      by_cases hlt : j < n
      · have hl := hn.out
        have hm := hk.out
        obtain ⟨b, o, rfl, hcell⟩ := HR.out.at_ (by omega)
        obtain ⟨b1, o1, rfl, hcell1⟩ := HQ.out.at_ (by omega)
        have h1 := Past.all (keep hb (hcell j (by omega)))
        have h2 := Past.all (keep hb (hcell1 j (by omega)))
        have hs1 := List.take_succ_eq_append_getElem (l := l) (i := j) (by omega)
        have hs2 := List.take_succ_eq_append_getElem (l := m) (i := j) (by omega)
        have hat := same_at (l := l) (m := m) (j := j) (by omega) (by omega)
        generalize l[j]'(by omega) = x at h1 hs1 hat
        generalize m[j]'(by omega) = y at h2 hs2 hat
        have hlt2 : (j : Int) < (n : Int) := by omega
        have H1 := hid hs1
        have H2 := hid hs2
        have HA := hid hat
        clear hs1 hs2 hcell hcell1 hl hm hat
        by_cases hxy : x = y
        · have hxy2 : (x != y) = false := by simpa using hxy
          have HX := hid hxy
          clear hxy
          go_wp2_with fail
          refine wp_region_past (by kernel_rfl) (by kernel_rfl) ?_
          repeat (go_big_quiet_step (fail))
          refine wpQuiet_nil ?_
          rintro _ ⟨⟨w7, hx⟩, rfl⟩
          go_wp2
          go_roundw
          case rel => exact ⟨j + 1, by omega, by go_num, hid (by rw [H1.out, H2.out, hz.out, HX.out]), hb.trans (hx.mono hb.size)⟩
          case measure => simp [intOf]; omega
        · have hxy2 : (x != y) = true := by simpa using hxy
          have HX := hid hxy
          clear hxy
          go_wp2_with fail
          refine wp_region_past (by kernel_rfl) (by kernel_rfl) ?_
          repeat (go_big_quiet_step (fail))
          refine wpQuiet_nil ?_
          rintro _ ⟨⟨w7, hx⟩, rfl⟩
          go_wp2
          go_ret
          exact ⟨ret_bool (HA.out HX.out).symm, hb.trans (hx.mono hb.size)⟩
      · have e1 : l.take j = l := List.take_of_length_le (by have := hn.out; omega)
        have e2 : m.take j = m := List.take_of_length_le (by have := hk.out; omega)
        have hlt2 : ¬ (j : Int) < (n : Int) := by omega
        have HE := hid (show sameRow l m = true by rw [← e1, hz.out, e2]; exact sameRow_self m)
        clear e1 e2
        go_wp2
        go_ret
        exact ⟨ret_bool HE.out.symm, hb⟩
  · have H := hid (same_no (l := l) (m := m) (by rw [hn.out, hk.out]; exact hnk))
    have hnk2 : ¬ (n : Int) = k := by omega
    go_enter Tryz.func76, Tryz.ntmps76
    go_wp2
    go_ret
    exact ⟨ret_bool H.out.symm, Below.refl _ _⟩
theorem equal_of (v : Bool) (A : Option Addr) (n c : Nat) (l : List Int) (hn : Hid (l.length = n)) (B : Option Addr) (k d : Nat) (m : List Int) (hk : Hid (m.length = k)) (hv : Hid (sameRow l m = v)) (w : World) (hr : Ri w A c l) (hq : Ri w B d m) :
    Calls Tryz.prog 76 #[.slice A n c, .slice B k d] w fun e w' => e = .returned (.bool v) ∧ Below w.heap.size w w' := by
  have e := hv.out
  subst e
  exact equal_any A n c l hn B k d m hk w hr hq

set_option maxRecDepth 100000 in
set_option maxHeartbeats 1600000 in
theorem osame_of (v : Bool) (a : Opd) (A : Option Addr) (n c : Nat) (hn : Hid (a.row.length = n)) (b : Opd) (B : Option Addr) (m d : Nat) (hm : Hid (b.row.length = m)) (hv : Hid (sameO a b = v)) (w : World) (hr : Ri w A c a.row) (hq : Ri w B d b.row) :
    Calls Tryz.prog 51 #[.agg #[.int .u8 a.kd, .int .u8 a.l, .int .u32 a.c, .int .u8 a.k, .int .i64 a.s, .int .u8 a.fl, .int .u32 a.fc, .int .u8 a.fk, .int .i64 a.fn, .int .i64 a.fm, .int .u8 a.al, .int .u32 a.ac, .int .u8 a.ak, .int .i64 a.an, .int .u8 a.tl, .int .u32 a.tc, .slice A n c], .agg #[.int .u8 b.kd, .int .u8 b.l, .int .u32 b.c, .int .u8 b.k, .int .i64 b.s, .int .u8 b.fl, .int .u32 b.fc, .int .u8 b.fk, .int .i64 b.fn, .int .i64 b.fm, .int .u8 b.al, .int .u32 b.ac, .int .u8 b.ak, .int .i64 b.an, .int .u8 b.tl, .int .u32 b.tc, .slice B m d]] w fun e w' => e = .returned (.bool v) ∧ Below w.heap.size w w' := by
  have h := hv.out
  clear hv
  rw [sameO] at h
  obtain ⟨q0, h0⟩ : ∃ q, (a.kd == b.kd) = q := ⟨_, rfl⟩
  obtain ⟨q1, h1⟩ : ∃ q, sameH a.l a.c a.k b.l b.c b.k = q := ⟨_, rfl⟩
  obtain ⟨q2, h2⟩ : ∃ q, (a.s == b.s) = q := ⟨_, rfl⟩
  obtain ⟨q3, h3⟩ : ∃ q, sameS a.fl a.fc a.fk a.fn a.fm b.fl b.fc b.fk b.fn b.fm = q := ⟨_, rfl⟩
  obtain ⟨q4, h4⟩ : ∃ q, sameI a.al a.ac a.ak a.an b.al b.ac b.ak b.an = q := ⟨_, rfl⟩
  obtain ⟨q5, h5⟩ : ∃ q, sameL a.tl a.tc b.tl b.tc = q := ⟨_, rfl⟩
  obtain ⟨q6, h6⟩ : ∃ q, sameRow a.row b.row = q := ⟨_, rfl⟩
  rw [h0, h1, h2, h3, h4, h5, h6] at h
  have HQ := hid h
  have HR := hid h6
  have E1 : ∀ W, (binOp .eql 26 (.agg #[.int .u8 (a.l), .int .u32 (a.c), .int .u8 (a.k)]) (.agg #[.int .u8 (b.l), .int .u32 (b.c), .int .u8 (b.k)])).run Tryz.prog W = .ok (.bool q1) W := fun W => by rw [← h1]; exact eql_handle W _ _ _ _ _ _
  have E3 : ∀ W, (binOp .eql 30 (.agg #[.int .u8 (a.fl), .int .u32 (a.fc), .int .u8 (a.fk), .int .i64 (a.fn), .int .i64 (a.fm)]) (.agg #[.int .u8 (b.fl), .int .u32 (b.fc), .int .u8 (b.fk), .int .i64 (b.fn), .int .i64 (b.fm)])).run Tryz.prog W = .ok (.bool q3) W := fun W => by rw [← h3]; exact eql_span W _ _ _ _ _ _ _ _ _ _
  have E4 : ∀ W, (binOp .eql 28 (.agg #[.int .u8 (a.al), .int .u32 (a.ac), .int .u8 (a.ak), .int .i64 (a.an)]) (.agg #[.int .u8 (b.al), .int .u32 (b.ac), .int .u8 (b.ak), .int .i64 (b.an)])).run Tryz.prog W = .ok (.bool q4) W := fun W => by rw [← h4]; exact eql_id W _ _ _ _ _ _ _ _
  have E5 : ∀ W, (binOp .eql 24 (.agg #[.int .u8 (a.tl), .int .u32 (a.tc)]) (.agg #[.int .u8 (b.tl), .int .u32 (b.tc)])).run Tryz.prog W = .ok (.bool q5) W := fun W => by rw [← h5]; exact eql_label W _ _ _ _
  clear h h1 h3 h4 h5 h6
  have hbW : Below w.heap.size w ((w.alloc (.cells #[.int .u8 a.kd, .int .u8 a.l, .int .u32 a.c, .int .u8 a.k, .int .i64 a.s, .int .u8 a.fl, .int .u32 a.fc, .int .u8 a.fk, .int .i64 a.fn, .int .i64 a.fm, .int .u8 a.al, .int .u32 a.ac, .int .u8 a.ak, .int .i64 a.an, .int .u8 a.tl, .int .u32 a.tc, .slice A n c] 33)).alloc (.cells #[.int .u8 b.kd, .int .u8 b.l, .int .u32 b.c, .int .u8 b.k, .int .i64 b.s, .int .u8 b.fl, .int .u32 b.fc, .int .u8 b.fk, .int .i64 b.fn, .int .i64 b.fm, .int .u8 b.al, .int .u32 b.ac, .int .u8 b.ak, .int .i64 b.an, .int .u8 b.tl, .int .u32 b.tc, .slice B m d] 33)) := by go_grown
  go_enter Tryz.func51, Tryz.ntmps51
  go_wp2_with (go_at_call 76; refine (equal_of q6 A n c a.row hn B m d b.row hm HR _ (hr.keep hbW) (hq.keep hbW)).mono ?_; rintro e w1 ⟨rfl, b1⟩; replace b1 := below_in hbW b1)
  all_goals
    go_ret
    refine ⟨ret_bool ?_, by first | exact b1 | exact hbW⟩
    clear E1 E3 E4 E5 hr hq
    simp [← HQ.out, *]
end Go.Proofs.YtndmblhkmgnpcaaGreat

namespace Go.Proofs.YtndmblhkmgnpcaaGreat
open Go.RowKit
set_option linter.unusedVariables false
set_option linter.unusedSimpArgs false


set_option maxRecDepth 100000 in
set_option maxHeartbeats 1600000 in
theorem rsame_of (v : Bool) (a : Opd) (A : Option Addr) (n c : Nat) (hn : Hid (a.row.length = n)) (b : Opd) (B : Option Addr) (m d : Nat) (hm : Hid (b.row.length = m)) (hv : Hid (sameO a b = v)) (w : World) (hr : Ri w A c a.row) (hq : Ri w B d b.row) :
    Calls Tryz.prog 50 #[.agg #[.int .u8 a.kd, .int .u8 a.l, .int .u32 a.c, .int .u8 a.k, .int .i64 a.s, .int .u8 a.fl, .int .u32 a.fc, .int .u8 a.fk, .int .i64 a.fn, .int .i64 a.fm, .int .u8 a.al, .int .u32 a.ac, .int .u8 a.ak, .int .i64 a.an, .int .u8 a.tl, .int .u32 a.tc, .slice A n c], .agg #[.int .u8 b.kd, .int .u8 b.l, .int .u32 b.c, .int .u8 b.k, .int .i64 b.s, .int .u8 b.fl, .int .u32 b.fc, .int .u8 b.fk, .int .i64 b.fn, .int .i64 b.fm, .int .u8 b.al, .int .u32 b.ac, .int .u8 b.ak, .int .i64 b.an, .int .u8 b.tl, .int .u32 b.tc, .slice B m d]] w fun e w' => e = .returned (.bool v) ∧ Below w.heap.size w w' := by
  have h := hv.out
  clear hv
  rw [sameO] at h
  obtain ⟨q0, h0⟩ : ∃ q, (a.kd == b.kd) = q := ⟨_, rfl⟩
  obtain ⟨q1, h1⟩ : ∃ q, sameH a.l a.c a.k b.l b.c b.k = q := ⟨_, rfl⟩
  obtain ⟨q2, h2⟩ : ∃ q, (a.s == b.s) = q := ⟨_, rfl⟩
  obtain ⟨q3, h3⟩ : ∃ q, sameS a.fl a.fc a.fk a.fn a.fm b.fl b.fc b.fk b.fn b.fm = q := ⟨_, rfl⟩
  obtain ⟨q4, h4⟩ : ∃ q, sameI a.al a.ac a.ak a.an b.al b.ac b.ak b.an = q := ⟨_, rfl⟩
  obtain ⟨q5, h5⟩ : ∃ q, sameL a.tl a.tc b.tl b.tc = q := ⟨_, rfl⟩
  obtain ⟨q6, h6⟩ : ∃ q, sameRow a.row b.row = q := ⟨_, rfl⟩
  rw [h0, h1, h2, h3, h4, h5, h6] at h
  have HQ := hid h
  have HR := hid h6
  have E1 : ∀ W, (binOp .eql 26 (.agg #[.int .u8 (a.l), .int .u32 (a.c), .int .u8 (a.k)]) (.agg #[.int .u8 (b.l), .int .u32 (b.c), .int .u8 (b.k)])).run Tryz.prog W = .ok (.bool q1) W := fun W => by rw [← h1]; exact eql_handle W _ _ _ _ _ _
  have E3 : ∀ W, (binOp .eql 30 (.agg #[.int .u8 (a.fl), .int .u32 (a.fc), .int .u8 (a.fk), .int .i64 (a.fn), .int .i64 (a.fm)]) (.agg #[.int .u8 (b.fl), .int .u32 (b.fc), .int .u8 (b.fk), .int .i64 (b.fn), .int .i64 (b.fm)])).run Tryz.prog W = .ok (.bool q3) W := fun W => by rw [← h3]; exact eql_span W _ _ _ _ _ _ _ _ _ _
  have E4 : ∀ W, (binOp .eql 28 (.agg #[.int .u8 (a.al), .int .u32 (a.ac), .int .u8 (a.ak), .int .i64 (a.an)]) (.agg #[.int .u8 (b.al), .int .u32 (b.ac), .int .u8 (b.ak), .int .i64 (b.an)])).run Tryz.prog W = .ok (.bool q4) W := fun W => by rw [← h4]; exact eql_id W _ _ _ _ _ _ _ _
  have E5 : ∀ W, (binOp .eql 24 (.agg #[.int .u8 (a.tl), .int .u32 (a.tc)]) (.agg #[.int .u8 (b.tl), .int .u32 (b.tc)])).run Tryz.prog W = .ok (.bool q5) W := fun W => by rw [← h5]; exact eql_label W _ _ _ _
  clear h h1 h3 h4 h5 h6
  have hbW : Below w.heap.size w ((w.alloc (.cells #[.int .u8 a.kd, .int .u8 a.l, .int .u32 a.c, .int .u8 a.k, .int .i64 a.s, .int .u8 a.fl, .int .u32 a.fc, .int .u8 a.fk, .int .i64 a.fn, .int .i64 a.fm, .int .u8 a.al, .int .u32 a.ac, .int .u8 a.ak, .int .i64 a.an, .int .u8 a.tl, .int .u32 a.tc, .slice A n c] 33)).alloc (.cells #[.int .u8 b.kd, .int .u8 b.l, .int .u32 b.c, .int .u8 b.k, .int .i64 b.s, .int .u8 b.fl, .int .u32 b.fc, .int .u8 b.fk, .int .i64 b.fn, .int .i64 b.fm, .int .u8 b.al, .int .u32 b.ac, .int .u8 b.ak, .int .i64 b.an, .int .u8 b.tl, .int .u32 b.tc, .slice B m d] 33)) := by go_grown
  go_enter Tryz.func50, Tryz.ntmps50
  go_wp2_with (go_at_call 75; refine (same_of q6 A n c a.row hn B m d b.row hm HR _ (hr.keep hbW) (hq.keep hbW)).mono ?_; rintro e w1 ⟨rfl, b1⟩; replace b1 := below_in hbW b1)
  all_goals
    go_ret
    refine ⟨ret_bool ?_, by first | exact b1 | exact hbW⟩
    clear E1 E3 E4 E5 hr hq
    simp [← HQ.out, *]
end Go.Proofs.YtndmblhkmgnpcaaGreat
