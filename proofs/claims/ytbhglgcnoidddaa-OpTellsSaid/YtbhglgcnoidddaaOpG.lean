/-
  The document's own May and Check of layer 9.
-/
import Derived.Test.YtbhglgcnoidddaaOpA
namespace Go.Proofs.Ytbhglgcnoidddaa
open Go.RowKit
set_option linter.unusedVariables false
set_option linter.unusedSimpArgs false

theorem mayH_of (q : Bool) (l c k : Int) (h : Hid (mayH l k = q)) (w : World) :
    Calls Try.prog 63 #[.agg #[.int .u8 l, .int .u32 c, .int .u8 k]] w fun e w' => e = .returned (.bool q) ∧ Below w.heap.size w w' := by
  rw [← h.out]; exact mayHandle_any l c k w
theorem mayI_of (q : Bool) (l c k n : Int) (h : Hid (mayI l k n = q)) (w : World) :
    Calls Try.prog 66 #[.agg #[.int .u8 l, .int .u32 c, .int .u8 k, .int .i64 n]] w fun e w' => e = .returned (.bool q) ∧ Below w.heap.size w w' := by
  rw [← h.out]; exact mayId_any l c k n w
theorem mayS_of (q : Bool) (l c k n m : Int) (hm0 : -9223372036854775808 ≤ m) (h : Hid (mayS l k n m = q)) (w : World) :
    Calls Try.prog 64 #[.agg #[.int .u8 l, .int .u32 c, .int .u8 k, .int .i64 n, .int .i64 m]] w fun e w' => e = .returned (.bool q) ∧ Below w.heap.size w w' := by
  rw [← h.out]; exact maySpan_any l c k n m hm0 w
theorem mayL_of (q : Bool) (l c : Int) (h : Hid (mayL l = q)) (w : World) :
    Calls Try.prog 68 #[.agg #[.int .u8 l, .int .u32 c]] w fun e w' => e = .returned (.bool q) ∧ Below w.heap.size w w' := by
  rw [← h.out]; exact mayL_any l c w

theorem zero_of (z : Bool) (l c k n : Int) (h : Hid (sameI l c k n 0 0 0 0 = z)) (w : World) :
    Calls Try.prog 65 #[.agg #[.int .u8 l, .int .u32 c, .int .u8 k, .int .i64 n]] w fun e w' => e = .returned (.bool z) ∧ Below w.heap.size w w' := by
  have hE : ∀ W, (binOp .eql 28 (.agg #[.int .u8 l, .int .u32 c, .int .u8 k, .int .i64 n]) (.agg #[.int .u8 0, .int .u32 0, .int .u8 0, .int .i64 0])).run Try.prog W = .ok (.bool z) W := fun W => by rw [← h.out]; exact eql_id W _ _ _ _ _ _ _ _
  go_enter Try.func65, Try.ntmps65
  go_wp2
  go_ret
  exact ⟨rfl, by go_grown⟩

set_option maxRecDepth 100000 in
set_option maxHeartbeats 3200000 in
theorem rmay_of (q : Bool) (o : Opd) (A : Option Addr) (n c : Nat) (hn : Hid (o.row.length = n)) (hq : Hid (mayO o = q)) (hm0 : -9223372036854775808 ≤ o.fm) (w : World) (hr : Ri w A c o.row) :
    Calls Try.prog 32 #[.agg #[.int .u8 o.kd, .int .u8 o.l, .int .u32 o.c, .int .u8 o.k, .int .i64 o.s, .int .u8 o.fl, .int .u32 o.fc, .int .u8 o.fk, .int .i64 o.fn, .int .i64 o.fm, .int .u8 o.al, .int .u32 o.ac, .int .u8 o.ak, .int .i64 o.an, .int .u8 o.tl, .int .u32 o.tc, .slice A n c]] w fun e w' => e = .returned (.bool q) ∧ Below w.heap.size w w' := by
  have h := hq.out
  clear hq
  obtain ⟨q1, h1⟩ : ∃ q, mayH o.l o.k = q := ⟨_, rfl⟩
  obtain ⟨q2, h2⟩ : ∃ q, mayS o.fl o.fk o.fn o.fm = q := ⟨_, rfl⟩
  have H1 := hid h1
  have H2 := hid h2
  rw [mayO, headB, h1, h2] at h
  clear h1 h2
  cases q1
  · have HQ := hid (show false = q by simpa using h)
    clear h hn hr
    go_enter Try.func32, Try.ntmps32
    go_wp2_with fail
    go_call mayH_of false _ _ _ H1 _ as e w1 ⟨rfl, b1⟩
    go_wp2
    go_ret
    exact ⟨ret_bool HQ.out, past_alloc b1⟩
  by_cases s1 : 1 ≤ o.s
  rotate_left
  · have d1 : decide (o.s < 1) = true := decide_eq_true (by omega)
    have HQ := hid (show false = q by rw [decide_eq_false s1] at h; simpa using h)
    clear h hn hr s1
    go_enter Try.func32, Try.ntmps32
    go_wp2_with fail
    go_call mayH_of true _ _ _ H1 _ as e w1 ⟨rfl, b1⟩
    obtain ⟨s0, s1, s2, s3, s4, s5, s6, s7, s8, s9, s10, s11, s12, s13, s14, s15, s16⟩ := (boxO_new w o A n c 35).keep b1
    go_wp2
    go_ret
    exact ⟨ret_bool HQ.out, past_alloc b1⟩
  have d1 : decide (o.s < 1) = false := decide_eq_false (by omega)
  by_cases s2 : o.s < 16777216
  rotate_left
  · have d2 : decide (16777216 ≤ o.s) = true := decide_eq_true (by omega)
    have HQ := hid (show false = q by rw [decide_eq_false s2] at h; simpa using h)
    clear h hn hr s1 s2
    go_enter Try.func32, Try.ntmps32
    go_wp2_with fail
    go_call mayH_of true _ _ _ H1 _ as e w1 ⟨rfl, b1⟩
    obtain ⟨s0, s1, s2, s3, s4, s5, s6, s7, s8, s9, s10, s11, s12, s13, s14, s15, s16⟩ := (boxO_new w o A n c 35).keep b1
    go_wp2
    go_ret
    exact ⟨ret_bool HQ.out, past_alloc b1⟩
  have d2 : decide (16777216 ≤ o.s) = false := decide_eq_false (by omega)
  rw [decide_eq_true s1, decide_eq_true s2] at h
  have HT := hid (show (q2 && tailB o) = q by simpa using h)
  clear h s1 s2
  go_enter Try.func32, Try.ntmps32
  go_wp2_with fail
  go_call mayH_of true _ _ _ H1 _ as e w1 ⟨rfl, b1⟩
  have bx := (boxO_new w o A n c 35).keep b1
  replace b1 := past_alloc b1
  have bx1 := bx
  obtain ⟨s0, s1, s2, s3, s4, s5, s6, s7, s8, s9, s10, s11, s12, s13, s14, s15, s16⟩ := bx1
  go_wp2_with fail
  go_call mayS_of q2 _ _ _ _ _ hm0 H2 _ as e w2 ⟨rfl, b2⟩
  clear s0 s1 s2 s3 s4 s5 s6 s7 s8 s9 s10 s11 s12 s13 s14 s15 s16
  replace bx := bx.keep b2
  replace b2 := below_in b1 b2
  cases q2
  · go_wp2
    go_ret
    exact ⟨ret_bool HT.out, b2⟩
  have ht := HT.out
  rw [Bool.true_and] at ht
  obtain ⟨z, hz⟩ : ∃ z, sameL o.tl o.tc 0 0 = z := ⟨_, rfl⟩
  have hE : ∀ W, (binOp .eql 24 (.agg #[.int .u8 (o.tl), .int .u32 (o.tc)]) (.agg #[.int .u8 0, .int .u32 0])).run Try.prog W = .ok (.bool z) W := fun W => by rw [← hz]; exact eql_label W _ _ _ _
  obtain ⟨u, hu⟩ : ∃ u, sameI o.al o.ac o.ak o.an 0 0 0 0 = u := ⟨_, rfl⟩
  have HU := hid hu
  have bx1 := bx
  obtain ⟨s0, s1, s2, s3, s4, s5, s6, s7, s8, s9, s10, s11, s12, s13, s14, s15, s16⟩ := bx1
  clear H1 H2 HT d1 d2 b1
  by_cases k1 : o.kd = 1
  · have e1 : (o.kd == 1) = true := by simpa using k1
    rw [tailB, if_pos k1, hz, aftB, hu] at ht
    cases z
    · have HQ := hid (show false = q by simpa using ht)
      clear ht hz hu k1
      go_wp2
      go_ret
      exact ⟨ret_bool HQ.out, b2⟩
    obtain ⟨x, hx⟩ : ∃ x, mayI o.al o.ak o.an = x := ⟨_, rfl⟩
    obtain ⟨y, hy⟩ : ∃ y, sameH o.fl o.fc o.fk o.l o.c o.k = y := ⟨_, rfl⟩
    have hF : ∀ W, (binOp .eql 26 (.agg #[.int .u8 (o.fl), .int .u32 (o.fc), .int .u8 (o.fk)]) (.agg #[.int .u8 (o.l), .int .u32 (o.c), .int .u8 (o.k)])).run Try.prog W = .ok (.bool y) W := fun W => by rw [← hy]; exact eql_handle W _ _ _ _ _ _
    obtain ⟨j, hj⟩ : ∃ j, chk o.row = j := ⟨_, rfl⟩
    have HX := hid hx
    have HJ := hid hj
    obtain ⟨p, hp⟩ : ∃ p, ((n : Int) == o.fm) = p := ⟨_, rfl⟩
    have hp2 : decide ((o.row.length : Int) = o.fm) = p := by rw [hn.out, ← hp, Bool.beq_eq_decide_eq]
    have hj2 : decide (chk o.row = 0) = (j == 0) := by rw [hj, Bool.beq_eq_decide_eq]
    rw [hx, hy, rowB, hp2, hj2] at ht
    have HQ := hid ht
    clear ht hz hu hx hy hj hp2 hj2 k1
    go_wp2_with fail
    go_call zero_of u _ _ _ _ HU _ as e w3 ⟨rfl, b3⟩
    clear s0 s1 s2 s3 s4 s5 s6 s7 s8 s9 s10 s11 s12 s13 s14 s15 s16
    replace bx := bx.keep b3
    replace b3 := below_in b2 b3
    have bx1 := bx
    obtain ⟨s0, s1, s2, s3, s4, s5, s6, s7, s8, s9, s10, s11, s12, s13, s14, s15, s16⟩ := bx1
    cases u
    · go_wp2_with fail
      go_call mayI_of x _ _ _ _ HX _ as e w4 ⟨rfl, b4⟩
      clear s0 s1 s2 s3 s4 s5 s6 s7 s8 s9 s10 s11 s12 s13 s14 s15 s16
      replace bx := bx.keep b4
      replace b4 := below_in b3 b4
      have bx1 := bx
      obtain ⟨s0, s1, s2, s3, s4, s5, s6, s7, s8, s9, s10, s11, s12, s13, s14, s15, s16⟩ := bx1
      go_wp2_with (go_at_call 67; refine (refcheck_of j A n c o.row hn HJ _ (hr.keep b4)).mono ?_; rintro e w5 ⟨rfl, rfl⟩)
      all_goals
        go_ret
        refine ⟨ret_bool ?_, b4⟩
        clear hE hF hr
        simp [← HQ.out, *]
    · go_wp2_with (go_at_call 67; refine (refcheck_of j A n c o.row hn HJ _ (hr.keep b3)).mono ?_; rintro e w5 ⟨rfl, rfl⟩)
      all_goals
        go_ret
        refine ⟨ret_bool ?_, b3⟩
        clear hE hF hr
        simp [← HQ.out, *]
  · have e1 : (o.kd == 1) = false := by simpa using k1
    rw [tailB, if_neg k1, hz] at ht
    have hnb : nonB o = (u && decide (n = 0)) := by rw [nonB, hu, hn.out]
    rw [hnb] at ht
    have HQ := hid ht
    clear ht hz hu hnb hn hr
    go_wp2_with fail
    go_call zero_of u _ _ _ _ HU _ as e w3 ⟨rfl, b3⟩
    clear s0 s1 s2 s3 s4 s5 s6 s7 s8 s9 s10 s11 s12 s13 s14 s15 s16
    replace bx := bx.keep b3
    replace b3 := below_in b2 b3
    obtain ⟨s0, s1, s2, s3, s4, s5, s6, s7, s8, s9, s10, s11, s12, s13, s14, s15, s16⟩ := bx
    cases u
    · go_wp2
      go_ret
      exact ⟨ret_bool (by rw [← HQ.out]; simp), b3⟩
    by_cases hn0 : n = 0
    · have HQ2 := hid (show (if o.kd = 2 then z else if o.kd = 3 then mayL o.tl else false) = q by rw [← HQ.out, decide_eq_true hn0]; simp)
      subst hn0
      clear HQ
      by_cases k2 : o.kd = 2
      · have e2 : (o.kd == 2) = true := by simpa using k2
        have HQ := hid (show z = q by rw [← HQ2.out, if_pos k2])
        have e3 : (o.kd == 3) = false := by simp; omega
        clear k1 k2 HQ2
        go_wp2
        all_goals
          go_ret
          refine ⟨ret_bool ?_, b3⟩
          clear hE
          simp [← HQ.out, *]
      · have e2 : (o.kd == 2) = false := by simpa using k2
        by_cases k3 : o.kd = 3
        · have e3 : (o.kd == 3) = true := by simpa using k3
          have HQ := hid (show mayL o.tl = q by rw [← HQ2.out, if_neg k2, if_pos k3])
          clear k1 k2 k3 HQ2
          go_wp2_with (go_at_call 68; refine (mayL_of q _ _ HQ _).mono ?_; rintro e w4 ⟨rfl, b4⟩)
          go_ret
          exact ⟨rfl, below_in b3 b4⟩
        · have e3 : (o.kd == 3) = false := by simpa using k3
          have HQ := hid (show false = q by rw [← HQ2.out, if_neg k2, if_neg k3])
          clear k1 k2 k3 HQ2
          go_wp2
          go_ret
          exact ⟨ret_bool HQ.out, b3⟩
    · have d4 : decide (0 < n) = true := decide_eq_true (by omega)
      have HQ2 := hid (show false = q by rw [← HQ.out, decide_eq_false hn0]; simp)
      clear HQ hn0
      go_wp2
      go_ret
      exact ⟨ret_bool HQ2.out, b3⟩

set_option maxHeartbeats 400000 in
theorem rcheck_of (j : Int) (o : Opd) (A : Option Addr) (n c : Nat) (hn : Hid (o.row.length = n)) (hj : Hid (er (mayO o) = j)) (hm0 : -9223372036854775808 ≤ o.fm) (w : World) (hr : Ri w A c o.row) :
    Calls Try.prog 21 #[.agg #[.int .u8 o.kd, .int .u8 o.l, .int .u32 o.c, .int .u8 o.k, .int .i64 o.s, .int .u8 o.fl, .int .u32 o.fc, .int .u8 o.fk, .int .i64 o.fn, .int .i64 o.fm, .int .u8 o.al, .int .u32 o.ac, .int .u8 o.ak, .int .i64 o.an, .int .u8 o.tl, .int .u32 o.tc, .slice A n c]] w fun e w' => e = .returned (.int .i64 j) ∧ Below w.heap.size w w' := by
  obtain ⟨q, hq⟩ : ∃ q, mayO o = q := ⟨_, rfl⟩
  have HQ := hid hq
  have HJ := hid (show er q = j by rw [← hq]; exact hj.out)
  clear hq hj
  have bx := boxO_new w o A n c 35
  go_enter Try.func21, Try.ntmps21
  go_wp2_with (refine wpList_load_o rfl (.tmp 1) rfl _ rfl bx ?_)
  go_call rmay_of q o A n c hn HQ hm0 _ (hr.alloc _) as e w1 ⟨rfl, b1⟩
  replace b1 := past_alloc b1
  cases q
  · go_wp2
    go_ret
    exact ⟨ret_int HJ.out, b1⟩
  · go_wp2
    go_ret
    exact ⟨ret_int HJ.out, b1⟩
end Go.Proofs.Ytbhglgcnoidddaa
