/-
  The program's tailMay.
-/
import Derived.Test.YtbhglgcnoidddaaOpA
namespace Go.Proofs.Ytbhglgcnoidddaa
open Go.RowKit
set_option linter.unusedVariables false
set_option linter.unusedSimpArgs false

set_option maxHeartbeats 1600000 in
theorem tailMay_of (q : Bool) (o : Opd) (A : Option Addr) (n c : Nat) (hn : Hid (o.row.length = n)) (hq : Hid (tailB o = q)) (w : World) (hr : Ri w A c o.row) :
    Calls Try.prog 28 #[.agg #[.int .u8 o.kd, .int .u8 o.l, .int .u32 o.c, .int .u8 o.k, .int .i64 o.s, .int .u8 o.fl, .int .u32 o.fc, .int .u8 o.fk, .int .i64 o.fn, .int .i64 o.fm, .int .u8 o.al, .int .u32 o.ac, .int .u8 o.ak, .int .i64 o.an, .int .u8 o.tl, .int .u32 o.tc, .slice A n c]] w fun e w' => e = .returned (.bool q) ∧ Below w.heap.size w w' := by
  have h := hq.out
  clear hq
  obtain ⟨z, hz⟩ : ∃ z, sameL o.tl o.tc 0 0 = z := ⟨_, rfl⟩
  have hE : ∀ W, (binOp .eql 24 (.agg #[.int .u8 (o.tl), .int .u32 (o.tc)]) (.agg #[.int .u8 0, .int .u32 0])).run Try.prog W = .ok (.bool z) W := fun W => by rw [← hz]; exact eql_label W _ _ _ _
  by_cases k1 : o.kd = 1
  · have d1 : (o.kd == 1) = true := by simpa using k1
    rw [tailB, if_pos k1, hz] at h
    obtain ⟨u, hu⟩ : ∃ u, sameH o.fl o.fc o.fk o.l o.c o.k = u := ⟨_, rfl⟩
    have hF : ∀ W, (binOp .eql 26 (.agg #[.int .u8 (o.fl), .int .u32 (o.fc), .int .u8 (o.fk)]) (.agg #[.int .u8 (o.l), .int .u32 (o.c), .int .u8 (o.k)])).run Try.prog W = .ok (.bool u) W := fun W => by rw [← hu]; exact eql_handle W _ _ _ _ _ _
    obtain ⟨v, hv⟩ : ∃ v, aftB o = v := ⟨_, rfl⟩
    obtain ⟨x, hx⟩ : ∃ x, rowB o = x := ⟨_, rfl⟩
    rw [hu, hv, hx] at h
    have HV := hid (show (sameI o.al o.ac o.ak o.an 0 0 0 0 || mayI o.al o.ak o.an) = v from hv)
    have HX := hid hx
    have HQ := hid h
    clear h hu hv hx hz k1
    cases u
    · go_enter Try.func28, Try.ntmps28
      go_wp2
      go_ret
      exact ⟨ret_bool (by rw [← HQ.out]; rfl), by go_grown⟩
    · go_enter Try.func28, Try.ntmps28
      go_wp2_with fail
      go_call afterMay_of v _ _ _ _ HV _ as e w1 ⟨rfl, b1⟩
      have bx := (boxO_new w o A n c 35).keep b1
      have bx' := bx
      replace b1 := past_alloc b1
      obtain ⟨s0, s1, s2, s3, s4, s5, s6, s7, s8, s9, s10, s11, s12, s13, s14, s15, s16⟩ := bx'
      cases v
      · go_wp2
        go_ret
        exact ⟨ret_bool (by rw [← HQ.out]; rfl), b1⟩
      · go_wp2_with (refine wpList_load_o rfl (.tmp 1) rfl _ rfl bx ?_)
        go_call rowMay_of x o A n c hn HX _ (hr.keep b1) as e w2 ⟨rfl, b2⟩
        clear s0 s1 s2 s3 s4 s5 s6 s7 s8 s9 s10 s11 s12 s13 s14 s15 s16
        replace bx := bx.keep b2
        replace b2 := below_in b1 b2
        obtain ⟨s0, s1, s2, s3, s4, s5, s6, s7, s8, s9, s10, s11, s12, s13, s14, s15, s16⟩ := bx
        cases x
        · go_wp2
          go_ret
          exact ⟨ret_bool (by rw [← HQ.out]; rfl), b2⟩
        · go_wp2
          go_ret
          exact ⟨ret_bool (by rw [← HQ.out]; rfl), b2⟩
  · have d1 : (o.kd == 1) = false := by simpa using k1
    rw [tailB, if_neg k1, hz] at h
    by_cases k2 : o.kd = 2
    · have d2 : (o.kd == 2) = true := by simpa using k2
      rw [if_pos k2] at h
      obtain ⟨v, hv⟩ : ∃ v, nonB o = v := ⟨_, rfl⟩
      rw [hv] at h
      have HV := hid hv
      have HQ := hid h
      clear h hz hv k1 k2
      have bx := boxO_new w o A n c 35
      go_enter Try.func28, Try.ntmps28
      go_wp2_with (refine wpList_load_o rfl (.tmp 1) rfl _ rfl bx ?_)
      go_call addsNothing_of v o A n c hn HV _ as e w1 ⟨rfl, b1⟩
      obtain ⟨s0, s1, s2, s3, s4, s5, s6, s7, s8, s9, s10, s11, s12, s13, s14, s15, s16⟩ := bx.keep b1
      replace b1 := past_alloc b1
      cases v
      · go_wp2
        go_ret
        exact ⟨ret_bool (by rw [← HQ.out]; rfl), b1⟩
      · go_wp2
        go_ret
        exact ⟨ret_bool (by rw [← HQ.out]; rfl), b1⟩
    · have d2 : (o.kd == 2) = false := by simpa using k2
      rw [if_neg k2] at h
      by_cases k3 : o.kd = 3
      · have d3 : (o.kd == 3) = true := by simpa using k3
        rw [if_pos k3] at h
        obtain ⟨v, hv⟩ : ∃ v, nonB o = v := ⟨_, rfl⟩
        obtain ⟨x, hx⟩ : ∃ x, mayL o.tl = x := ⟨_, rfl⟩
        rw [hv, hx] at h
        have HV := hid hv
        have HX := hid hx
        have HQ := hid h
        clear h hz hv hx k1 k2 k3
        have bx := boxO_new w o A n c 35
        go_enter Try.func28, Try.ntmps28
        go_wp2_with (refine wpList_load_o rfl (.tmp 1) rfl _ rfl bx ?_)
        go_call addsNothing_of v o A n c hn HV _ as e w1 ⟨rfl, b1⟩
        obtain ⟨s0, s1, s2, s3, s4, s5, s6, s7, s8, s9, s10, s11, s12, s13, s14, s15, s16⟩ := bx.keep b1
        replace b1 := past_alloc b1
        cases v
        · go_wp2
          go_ret
          exact ⟨ret_bool (by rw [← HQ.out]; rfl), b1⟩
        · cases x
          · have HK := hid (show er (mayL o.tl) = 8 by rw [HX.out]; rfl)
            go_wp2_with fail
            go_call chkL_j 8 _ _ HK _ as e w2 ⟨rfl, b2⟩
            go_wp2
            go_ret
            exact ⟨ret_bool (by rw [← HQ.out]; rfl), below_in b1 b2⟩
          · have HK := hid (show er (mayL o.tl) = 0 by rw [HX.out]; rfl)
            go_wp2_with fail
            go_call chkL_j 0 _ _ HK _ as e w2 ⟨rfl, b2⟩
            go_wp2
            go_ret
            exact ⟨ret_bool (by rw [← HQ.out]; rfl), below_in b1 b2⟩
      · have d3 : (o.kd == 3) = false := by simpa using k3
        rw [if_neg k3] at h
        have HQ := hid h
        clear h hz k1 k2 k3
        go_enter Try.func28, Try.ntmps28
        go_wp2
        go_ret
        exact ⟨ret_bool HQ.out, by go_grown⟩

end Go.Proofs.Ytbhglgcnoidddaa
