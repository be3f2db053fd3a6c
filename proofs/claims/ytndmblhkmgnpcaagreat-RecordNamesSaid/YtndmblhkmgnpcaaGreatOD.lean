/-
  How many bytes; whether there is a blank: the program's and the document's own.
-/
import Derived.Test.YtndmblhkmgnpcaaGreatOA
namespace Go.Proofs.YtndmblhkmgnpcaaGreat
open Go.RowKit
set_option linter.unusedVariables false
set_option linter.unusedSimpArgs false

set_option maxHeartbeats 800000 in
theorem headMay_of (q : Bool) (o : Opd) (A : Option Addr) (n c : Nat) (hq : Hid (headB o = q)) (w : World) :
    Calls Tryz.prog 87 #[.agg #[.int .u8 o.kd, .int .u8 o.l, .int .u32 o.c, .int .u8 o.k, .int .i64 o.s, .int .u8 o.fl, .int .u32 o.fc, .int .u8 o.fk, .int .i64 o.fn, .int .i64 o.fm, .int .u8 o.al, .int .u32 o.ac, .int .u8 o.ak, .int .i64 o.an, .int .u8 o.tl, .int .u32 o.tc, .slice A n c]] w fun e w' => e = .returned (.bool q) ∧ Below w.heap.size w w' := by
  obtain ⟨m, hm⟩ : ∃ m, mayH o.l o.k = m := ⟨_, rfl⟩
  have h := hq.out
  rw [headB, hm] at h
  have HM := hid hm
  clear hq hm
  cases m
  · have HQ := hid (show false = q by simpa using h)
    have HJ := hid (show er (mayH o.l o.k) = 8 by rw [HM.out]; rfl)
    clear h
    go_enter Tryz.func87, Tryz.ntmps87
    go_wp2_with fail
    go_call chkH_j 8 _ _ _ HJ _ as e w1 ⟨rfl, b1⟩
    go_wp2
    go_ret
    exact ⟨ret_bool HQ.out, past_alloc b1⟩
  · have HJ := hid (show er (mayH o.l o.k) = 0 by rw [HM.out]; rfl)
    by_cases h1 : 1 ≤ o.s
    · by_cases h2 : o.s < 16777216
      · have d1 : decide (1 ≤ o.s) = true := decide_eq_true h1
        have d2 : decide (o.s < 16777216) = true := decide_eq_true h2
        rw [d1, d2] at h
        obtain ⟨r, hr⟩ : ∃ r, mayS o.fl o.fk o.fn o.fm = r := ⟨_, rfl⟩
        rw [hr] at h
        have HR := hid hr
        have HQ := hid (show r = q by simpa using h)
        clear h hr h1 h2
        cases r
        · have HK := hid (show er (mayS o.fl o.fk o.fn o.fm) = 8 by rw [HR.out]; rfl)
          go_enter Tryz.func87, Tryz.ntmps87
          go_wp2_with fail
          go_call chkH_j 0 _ _ _ HJ _ as e w1 ⟨rfl, b1⟩
          obtain ⟨s0, s1, s2, s3, s4, s5, s6, s7, s8, s9, s10, s11, s12, s13, s14, s15, s16⟩ := (boxO_new w o A n c 33).keep b1
          replace b1 := past_alloc b1
          go_wp2_with fail
          go_call chkS_j 8 _ _ _ _ _ HK _ as e w2 ⟨rfl, b2⟩
          go_wp2
          go_ret
          exact ⟨ret_bool HQ.out, below_in b1 b2⟩
        · have HK := hid (show er (mayS o.fl o.fk o.fn o.fm) = 0 by rw [HR.out]; rfl)
          go_enter Tryz.func87, Tryz.ntmps87
          go_wp2_with fail
          go_call chkH_j 0 _ _ _ HJ _ as e w1 ⟨rfl, b1⟩
          obtain ⟨s0, s1, s2, s3, s4, s5, s6, s7, s8, s9, s10, s11, s12, s13, s14, s15, s16⟩ := (boxO_new w o A n c 33).keep b1
          replace b1 := past_alloc b1
          go_wp2_with fail
          go_call chkS_j 0 _ _ _ _ _ HK _ as e w2 ⟨rfl, b2⟩
          go_wp2
          go_ret
          exact ⟨ret_bool HQ.out, below_in b1 b2⟩
      · have d1 : decide (1 ≤ o.s) = true := decide_eq_true h1
        have d2 : decide (o.s < 16777216) = false := decide_eq_false h2
        rw [d1, d2] at h
        have HQ := hid (show false = q by simpa using h)
        clear h h1 h2
        go_enter Tryz.func87, Tryz.ntmps87
        go_wp2_with fail
        go_call chkH_j 0 _ _ _ HJ _ as e w1 ⟨rfl, b1⟩
        obtain ⟨s0, s1, s2, s3, s4, s5, s6, s7, s8, s9, s10, s11, s12, s13, s14, s15, s16⟩ := (boxO_new w o A n c 33).keep b1
        go_wp2
        go_ret
        exact ⟨ret_bool HQ.out, past_alloc b1⟩
    · have d1 : decide (1 ≤ o.s) = false := decide_eq_false h1
      rw [d1] at h
      have HQ := hid (show false = q by simpa using h)
      clear h h1
      go_enter Tryz.func87, Tryz.ntmps87
      go_wp2_with fail
      go_call chkH_j 0 _ _ _ HJ _ as e w1 ⟨rfl, b1⟩
      obtain ⟨s0, s1, s2, s3, s4, s5, s6, s7, s8, s9, s10, s11, s12, s13, s14, s15, s16⟩ := (boxO_new w o A n c 33).keep b1
      go_wp2
      go_ret
      exact ⟨ret_bool HQ.out, past_alloc b1⟩

end Go.Proofs.YtndmblhkmgnpcaaGreat

namespace Go.Proofs.YtndmblhkmgnpcaaGreat
open Go.RowKit
set_option linter.unusedVariables false
set_option linter.unusedSimpArgs false

set_option maxHeartbeats 1600000 in
theorem tailMay_of (q : Bool) (o : Opd) (A : Option Addr) (n c : Nat) (hn : Hid (o.row.length = n)) (hq : Hid (tailB o = q)) (w : World) (hr : Ri w A c o.row) :
    Calls Tryz.prog 88 #[.agg #[.int .u8 o.kd, .int .u8 o.l, .int .u32 o.c, .int .u8 o.k, .int .i64 o.s, .int .u8 o.fl, .int .u32 o.fc, .int .u8 o.fk, .int .i64 o.fn, .int .i64 o.fm, .int .u8 o.al, .int .u32 o.ac, .int .u8 o.ak, .int .i64 o.an, .int .u8 o.tl, .int .u32 o.tc, .slice A n c]] w fun e w' => e = .returned (.bool q) ∧ Below w.heap.size w w' := by
  have h := hq.out
  clear hq
  obtain ⟨z, hz⟩ : ∃ z, sameL o.tl o.tc 0 0 = z := ⟨_, rfl⟩
  have hE : ∀ W, (binOp .eql 24 (.agg #[.int .u8 (o.tl), .int .u32 (o.tc)]) (.agg #[.int .u8 0, .int .u32 0])).run Tryz.prog W = .ok (.bool z) W := fun W => by rw [← hz]; exact eql_label W _ _ _ _
  by_cases k1 : o.kd = 1
  · have d1 : (o.kd == 1) = true := by simpa using k1
    rw [tailB, if_pos k1, hz] at h
    obtain ⟨u, hu⟩ : ∃ u, sameH o.fl o.fc o.fk o.l o.c o.k = u := ⟨_, rfl⟩
    have hF : ∀ W, (binOp .eql 26 (.agg #[.int .u8 (o.fl), .int .u32 (o.fc), .int .u8 (o.fk)]) (.agg #[.int .u8 (o.l), .int .u32 (o.c), .int .u8 (o.k)])).run Tryz.prog W = .ok (.bool u) W := fun W => by rw [← hu]; exact eql_handle W _ _ _ _ _ _
    obtain ⟨v, hv⟩ : ∃ v, aftB o = v := ⟨_, rfl⟩
    obtain ⟨x, hx⟩ : ∃ x, rowB o = x := ⟨_, rfl⟩
    rw [hu, hv, hx] at h
    have HV := hid (show (sameI o.al o.ac o.ak o.an 0 0 0 0 || mayI o.al o.ak o.an) = v from hv)
    have HX := hid hx
    have HQ := hid h
    clear h hu hv hx hz k1
    cases u
    · go_enter Tryz.func88, Tryz.ntmps88
      go_wp2
      go_ret
      exact ⟨ret_bool (by rw [← HQ.out]; rfl), by go_grown⟩
    · go_enter Tryz.func88, Tryz.ntmps88
      go_wp2_with fail
      go_call afterMay_of v _ _ _ _ HV _ as e w1 ⟨rfl, b1⟩
      have bx := (boxO_new w o A n c 33).keep b1
      have bx' := bx
      replace b1 := past_alloc b1
      obtain ⟨s0, s1, s2, s3, s4, s5, s6, s7, s8, s9, s10, s11, s12, s13, s14, s15, s16⟩ := bx'
      cases v
      · go_wp2
        go_ret
        exact ⟨ret_bool (by rw [← HQ.out]; rfl), b1⟩
      · go_wp2_with (refine wpList_load_o rfl (.tmp 1) rfl _ rfl bx ?_)
        go_call rowMay_of x o A n c hn HX _ (hr.keep b1) as e w2 ⟨rfl, b2⟩
        clear s0 s1 s2 s3 s4 s5 s6 s7 s8 s9 s10 s11 s12 s13 s14 s15 s16
        replace bx := bx.keep b2
        replace b2 := below_in b1 b2
        obtain ⟨s0, s1, s2, s3, s4, s5, s6, s7, s8, s9, s10, s11, s12, s13, s14, s15, s16⟩ := bx
        cases x
        · go_wp2
          go_ret
          exact ⟨ret_bool (by rw [← HQ.out]; rfl), b2⟩
        · go_wp2
          go_ret
          exact ⟨ret_bool (by rw [← HQ.out]; rfl), b2⟩
  · have d1 : (o.kd == 1) = false := by simpa using k1
    rw [tailB, if_neg k1, hz] at h
    by_cases k2 : o.kd = 2
    · have d2 : (o.kd == 2) = true := by simpa using k2
      rw [if_pos k2] at h
      obtain ⟨v, hv⟩ : ∃ v, nonB o = v := ⟨_, rfl⟩
      rw [hv] at h
      have HV := hid hv
      have HQ := hid h
      clear h hz hv k1 k2
      have bx := boxO_new w o A n c 33
      go_enter Tryz.func88, Tryz.ntmps88
      go_wp2_with (refine wpList_load_o rfl (.tmp 1) rfl _ rfl bx ?_)
      go_call addsNothing_of v o A n c hn HV _ as e w1 ⟨rfl, b1⟩
      obtain ⟨s0, s1, s2, s3, s4, s5, s6, s7, s8, s9, s10, s11, s12, s13, s14, s15, s16⟩ := bx.keep b1
      replace b1 := past_alloc b1
      cases v
      · go_wp2
        go_ret
        exact ⟨ret_bool (by rw [← HQ.out]; rfl), b1⟩
      · go_wp2
        go_ret
        exact ⟨ret_bool (by rw [← HQ.out]; rfl), b1⟩
    · have d2 : (o.kd == 2) = false := by simpa using k2
      rw [if_neg k2] at h
      by_cases k3 : o.kd = 3
      · have d3 : (o.kd == 3) = true := by simpa using k3
        rw [if_pos k3] at h
        obtain ⟨v, hv⟩ : ∃ v, nonB o = v := ⟨_, rfl⟩
        obtain ⟨x, hx⟩ : ∃ x, mayL o.tl = x := ⟨_, rfl⟩
        rw [hv, hx] at h
        have HV := hid hv
        have HX := hid hx
        have HQ := hid h
        clear h hz hv hx k1 k2 k3
        have bx := boxO_new w o A n c 33
        go_enter Tryz.func88, Tryz.ntmps88
        go_wp2_with (refine wpList_load_o rfl (.tmp 1) rfl _ rfl bx ?_)
        go_call addsNothing_of v o A n c hn HV _ as e w1 ⟨rfl, b1⟩
        obtain ⟨s0, s1, s2, s3, s4, s5, s6, s7, s8, s9, s10, s11, s12, s13, s14, s15, s16⟩ := bx.keep b1
        replace b1 := past_alloc b1
        cases v
        · go_wp2
          go_ret
          exact ⟨ret_bool (by rw [← HQ.out]; rfl), b1⟩
        · cases x
          · have HK := hid (show er (mayL o.tl) = 8 by rw [HX.out]; rfl)
            go_wp2_with fail
            go_call chkL_j 8 _ _ HK _ as e w2 ⟨rfl, b2⟩
            go_wp2
            go_ret
            exact ⟨ret_bool (by rw [← HQ.out]; rfl), below_in b1 b2⟩
          · have HK := hid (show er (mayL o.tl) = 0 by rw [HX.out]; rfl)
            go_wp2_with fail
            go_call chkL_j 0 _ _ HK _ as e w2 ⟨rfl, b2⟩
            go_wp2
            go_ret
            exact ⟨ret_bool (by rw [← HQ.out]; rfl), below_in b1 b2⟩
      · have d3 : (o.kd == 3) = false := by simpa using k3
        rw [if_neg k3] at h
        have HQ := hid h
        clear h hz k1 k2 k3
        go_enter Tryz.func88, Tryz.ntmps88
        go_wp2
        go_ret
        exact ⟨ret_bool HQ.out, by go_grown⟩

end Go.Proofs.YtndmblhkmgnpcaaGreat

namespace Go.Proofs.YtndmblhkmgnpcaaGreat
open Go.RowKit
set_option linter.unusedVariables false
set_option linter.unusedSimpArgs false

set_option maxHeartbeats 800000 in
theorem ocheck_of (j : Int) (o : Opd) (A : Option Addr) (n c : Nat) (hn : Hid (o.row.length = n)) (hj : Hid (er (mayO o) = j)) (w : World) (hr : Ri w A c o.row) :
    Calls Tryz.prog 61 #[.agg #[.int .u8 o.kd, .int .u8 o.l, .int .u32 o.c, .int .u8 o.k, .int .i64 o.s, .int .u8 o.fl, .int .u32 o.fc, .int .u8 o.fk, .int .i64 o.fn, .int .i64 o.fm, .int .u8 o.al, .int .u32 o.ac, .int .u8 o.ak, .int .i64 o.an, .int .u8 o.tl, .int .u32 o.tc, .slice A n c]] w fun e w' => e = .returned (.int .i64 j) ∧ Below w.heap.size w w' := by
  obtain ⟨u, hu⟩ : ∃ u, headB o = u := ⟨_, rfl⟩
  obtain ⟨v, hv⟩ : ∃ v, tailB o = v := ⟨_, rfl⟩
  have h := hj.out
  rw [mayO, hu, hv] at h
  have HJ := hid h
  have HU := hid hu
  have HV := hid hv
  clear h hu hv hj
  have bx := boxO_new w o A n c 33
  go_enter Tryz.func61, Tryz.ntmps61
  go_wp2_with (refine wpList_load_o rfl (.tmp 1) rfl _ rfl bx ?_)
  go_call headMay_of u o A n c HU _ as e w1 ⟨rfl, b1⟩
  replace bx := bx.keep b1
  replace b1 := past_alloc b1
  cases u
  · go_wp2
    go_ret
    exact ⟨ret_int (by rw [← HJ.out]; rfl), b1⟩
  · go_wp2_with (refine wpList_load_o rfl (.tmp 1) rfl _ rfl bx ?_)
    go_call tailMay_of v o A n c hn HV _ (hr.keep b1) as e w2 ⟨rfl, b2⟩
    replace b2 := below_in b1 b2
    cases v
    · go_wp2
      go_ret
      exact ⟨ret_int (by rw [← HJ.out]; rfl), b2⟩
    · go_wp2
      go_ret
      exact ⟨ret_int (by rw [← HJ.out]; rfl), b2⟩
end Go.Proofs.YtndmblhkmgnpcaaGreat

namespace Go.Proofs.YtndmblhkmgnpcaaGreat
open Go.RowKit
set_option linter.unusedVariables false
set_option linter.unusedSimpArgs false

set_option maxHeartbeats 800000 in
theorem size_of (v kd m : Int) (hv : Hid (szO kd m = v)) (w : World) :
    Calls Tryz.prog 132 #[.int .u8 kd, .int .i64 m] w fun e w' => e = .returned (.int .i64 v) ∧ w = w' := by
  have h := hv.out
  clear hv
  by_cases m1 : m < 1
  · have d1 : decide (m < 1) = true := decide_eq_true m1
    rw [szO, if_neg (by omega)] at h
    have H := hid h
    clear h m1
    go_enter Tryz.func132, Tryz.ntmps132
    go_wp2
    go_ret
    exact ⟨ret_int H.out, rfl⟩
  · have d1 : decide (m < 1) = false := decide_eq_false m1
    by_cases m2 : 64 < m
    · have d2 : decide (64 < m) = true := decide_eq_true m2
      rw [szO, if_neg (by omega)] at h
      have H := hid h
      clear h m1 m2
      go_enter Tryz.func132, Tryz.ntmps132
      go_wp2
      go_ret
      exact ⟨ret_int H.out, rfl⟩
    · have d2 : decide (64 < m) = false := decide_eq_false m2
      rw [szO, if_pos (by omega)] at h
      have M1 : 1 ≤ m := by omega
      have M2 : m ≤ 64 := by omega
      clear m1 m2
      by_cases k1 : kd = 1
      · have e1 : (kd == 1) = true := by simpa using k1
        rw [if_pos k1] at h
        have H := hid h
        clear h k1
        go_enter Tryz.func132, Tryz.ntmps132
        go_wp2
        go_ret
        exact ⟨ret_int H.out, rfl⟩
      · have e1 : (kd == 1) = false := by simpa using k1
        rw [if_neg k1] at h
        by_cases k2 : kd = 2
        · have e2 : (kd == 2) = true := by simpa using k2
          rw [if_pos k2] at h
          have H := hid h
          clear h k1 k2
          go_enter Tryz.func132, Tryz.ntmps132
          go_wp2
          go_ret
          exact ⟨ret_int H.out, rfl⟩
        · have e2 : (kd == 2) = false := by simpa using k2
          rw [if_neg k2] at h
          by_cases k3 : kd = 3
          · have e3 : (kd == 3) = true := by simpa using k3
            rw [if_pos k3] at h
            have H := hid h
            clear h k1 k2 k3
            go_enter Tryz.func132, Tryz.ntmps132
            go_wp2
            go_ret
            exact ⟨ret_int H.out, rfl⟩
          · have e3 : (kd == 3) = false := by simpa using k3
            rw [if_neg k3] at h
            have H := hid h
            clear h k1 k2 k3
            go_enter Tryz.func132, Tryz.ntmps132
            go_wp2
            go_ret
            exact ⟨ret_int H.out, rfl⟩

set_option maxHeartbeats 800000 in
theorem rsize_of (v kd m : Int) (hv : Hid (szO kd m = v)) (w : World) :
    Calls Tryz.prog 101 #[.int .u8 kd, .int .i64 m] w fun e w' => e = .returned (.int .i64 v) ∧ w = w' := by
  have h := hv.out
  clear hv
  by_cases m1 : m < 1
  · have d1 : decide (m < 1) = true := decide_eq_true m1
    rw [szO, if_neg (by omega)] at h
    have H := hid h
    clear h m1
    go_enter Tryz.func101, Tryz.ntmps101
    go_wp2
    go_ret
    exact ⟨ret_int H.out, rfl⟩
  · have d1 : decide (m < 1) = false := decide_eq_false m1
    by_cases m2 : 64 < m
    · have d2 : decide (64 < m) = true := decide_eq_true m2
      rw [szO, if_neg (by omega)] at h
      have H := hid h
      clear h m1 m2
      go_enter Tryz.func101, Tryz.ntmps101
      go_wp2
      go_ret
      exact ⟨ret_int H.out, rfl⟩
    · have d2 : decide (64 < m) = false := decide_eq_false m2
      rw [szO, if_pos (by omega)] at h
      have M1 : 1 ≤ m := by omega
      have M2 : m ≤ 64 := by omega
      clear m1 m2
      by_cases k1 : kd = 1
      · have e1 : (kd == 1) = true := by simpa using k1
        rw [if_pos k1] at h
        have H := hid h
        clear h k1
        go_enter Tryz.func101, Tryz.ntmps101
        go_wp2
        go_ret
        exact ⟨ret_int H.out, rfl⟩
      · have e1 : (kd == 1) = false := by simpa using k1
        rw [if_neg k1] at h
        by_cases k2 : kd = 2
        · have e2 : (kd == 2) = true := by simpa using k2
          rw [if_pos k2] at h
          have H := hid h
          clear h k1 k2
          go_enter Tryz.func101, Tryz.ntmps101
          go_wp2
          go_ret
          exact ⟨ret_int H.out, rfl⟩
        · have e2 : (kd == 2) = false := by simpa using k2
          rw [if_neg k2] at h
          by_cases k3 : kd = 3
          · have e3 : (kd == 3) = true := by simpa using k3
            rw [if_pos k3] at h
            have H := hid h
            clear h k1 k2 k3
            go_enter Tryz.func101, Tryz.ntmps101
            go_wp2
            go_ret
            exact ⟨ret_int H.out, rfl⟩
          · have e3 : (kd == 3) = false := by simpa using k3
            rw [if_neg k3] at h
            have H := hid h
            clear h k1 k2 k3
            go_enter Tryz.func101, Tryz.ntmps101
            go_wp2
            go_ret
            exact ⟨ret_int H.out, rfl⟩

/-- No blank. -/
def plB (l : List Int) : Bool := l.all fun x => !(x == -1)
/-- Where the first blank stands. -/
def ixB (l : List Int) : Int := match l.findIdx? (fun x => x == -1) with | some i => (i : Int) | none => -1
theorem ixB_none {l : List Int} (h : plB l = true) : ixB l = -1 := by
  have : l.findIdx? (fun x => x == -1) = none := by
    rw [List.findIdx?_eq_none_iff]
    intro x hx
    simpa using List.all_eq_true.1 h x hx
  simp [ixB, this]
theorem ixB_at {l : List Int} {j : Nat} (hj : j < l.length) (h1 : plB (l.take j) = true) (h2 : l[j] = -1) : ixB l = (j : Int) ∧ plB l = false := by
  have : l.findIdx? (fun x => x == -1) = some j := by
    rw [List.findIdx?_eq_some_iff_getElem]
    refine ⟨hj, by simp [h2], fun i hi => ?_⟩
    have : (!(l[i] == -1)) = true := by
      refine List.all_eq_true.1 h1 _ ?_
      rw [List.mem_iff_getElem]
      exact ⟨i, by rw [List.length_take]; omega, by simp⟩
    simpa using this
  refine ⟨by simp [ixB, this], ?_⟩
  rw [Bool.eq_false_iff]
  intro hh
  have := List.all_eq_true.1 hh _ (List.getElem_mem hj)
  rw [h2] at this
  cases this
theorem ixB_dec (l : List Int) : decide (0 ≤ ixB l) = !plB l := by
  unfold ixB
  match h : l.findIdx? (fun x => x == -1) with
  | none =>
    rw [List.findIdx?_eq_none_iff] at h
    have : plB l = true := List.all_eq_true.2 fun x hx => by simpa using h x hx
    simp [this]
  | some i =>
    rw [List.findIdx?_eq_some_iff_getElem] at h
    obtain ⟨hi, h1, _⟩ := h
    have : plB l = false := by
      rw [Bool.eq_false_iff]
      intro hh
      have h2 := List.all_eq_true.1 hh _ (List.getElem_mem hi)
      rw [h1] at h2
      cases h2
    simp [this]
theorem plB_take {l : List Int} {j : Nat} (hj : j < l.length) : plB (l.take (j + 1)) = (plB (l.take j) && !(l[j] == -1)) := by
  rw [List.take_succ_eq_append_getElem hj, plB, List.all_append]
  simp [plB]

set_option maxHeartbeats 400000 in
theorem ix_any (A : Option Addr) (n c : Nat) (l : List Int) (hn : Hid (l.length = n)) (w : World) (hr : Ri w A c l) :
    Calls Tryz.prog 116 #[.slice A n c, .int .i32 (-1)] w fun e w' => e = .returned (.int .i64 (ixB l)) ∧ w = w' := by
  have hc2 : (c : Int) ≤ 9223372036854775807 := by have := hr.cap; omega
  have hc1 : (n : Int) ≤ c := by have := hr.len; have := hn.out; omega
  have HR := hid hr
  clear hr
  go_enter Tryz.func116, Tryz.ntmps116
  go_wp2
  go_loop [5, 8] (fun x i => ∃ j : Nat, j ≤ n ∧ i = .int .i64 (j : Int) ∧ Hid (plB (l.take j) = true)) (fun _ i => n - (intOf i).toNat)
  case atStart => exact ⟨0, by omega, rfl, hid rfl⟩
  case round =>
    obtain ⟨j, hj, rfl, hz⟩ := hrel
    by_cases hlt : j < n
    · have hl := hn.out
      obtain ⟨b, o, rfl, hcell⟩ := HR.out.at_ (by omega)
      have h1 := hcell j (by omega)
      have hs := plB_take (l := l) (j := j) (by omega)
      have hat := ixB_at (l := l) (j := j) (by omega) hz.out
      generalize l[j]'(by omega) = d at h1 hs hat
      have hlt2 : (j : Int) < (n : Int) := by omega
      have HS := hid hs
      have HA := hid hat
      clear hs hcell hl hat
      by_cases hd : d = -1
      · have hd2 : (-1 == d) = true := by subst hd; rfl
        have HD := hid hd
        clear hd
        go_wp2
        go_ret
        exact ⟨ret_int (HA.out HD.out).1.symm, rfl⟩
      · have hd2 : (-1 == d) = false := by simp; omega
        have HD := hid (show (d == -1) = false by simpa using hd)
        clear hd
        go_wp2
        go_round
        case rel => exact ⟨j + 1, by omega, by go_num, hid (by rw [HS.out, hz.out, HD.out]; rfl)⟩
        case measure => simp [intOf]; omega
    · have ej : l.take j = l := List.take_of_length_le (by have := hn.out; omega)
      have hlt2 : ¬ (j : Int) < (n : Int) := by omega
      have HE := hid ej
      clear ej
      go_wp2
      go_ret
      exact ⟨ret_int (ixB_none (by rw [← HE.out]; exact hz.out)).symm, rfl⟩

set_option maxHeartbeats 400000 in
theorem has_any (A : Option Addr) (n c : Nat) (l : List Int) (hn : Hid (l.length = n)) (w : World) (hr : Ri w A c l) :
    Calls Tryz.prog 89 #[.slice A n c, .int .i32 (-1)] w fun e w' => e = .returned (.bool (!plB l)) ∧ w = w' := by
  go_enter Tryz.func89, Tryz.ntmps89
  go_wp2_with (go_at_call 116; refine (ix_any A n c l hn _ hr).mono ?_; rintro e w' ⟨rfl, rfl⟩)
  go_ret
  exact ⟨ret_bool (ixB_dec l), rfl⟩

set_option maxHeartbeats 400000 in
theorem plain_of (q : Bool) (o : Opd) (A : Option Addr) (n c : Nat) (hn : Hid (o.row.length = n)) (hq : Hid (plB o.row = q)) (w : World) (hr : Ri w A c o.row) :
    Calls Tryz.prog 62 #[.agg #[.int .u8 o.kd, .int .u8 o.l, .int .u32 o.c, .int .u8 o.k, .int .i64 o.s, .int .u8 o.fl, .int .u32 o.fc, .int .u8 o.fk, .int .i64 o.fn, .int .i64 o.fm, .int .u8 o.al, .int .u32 o.ac, .int .u8 o.ak, .int .i64 o.an, .int .u8 o.tl, .int .u32 o.tc, .slice A n c]] w fun e w' => e = .returned (.bool q) ∧ Below w.heap.size w w' := by
  go_enter Tryz.func62, Tryz.ntmps62
  go_wp2_with fail
  go_call has_any A n c o.row hn _ (hr.alloc _) as e w1 ⟨rfl, rfl⟩
  go_wp2
  go_ret
  exact ⟨ret_bool (by rw [← hq.out]), by go_grown⟩

set_option maxHeartbeats 400000 in
theorem rplain_of (q : Bool) (o : Opd) (A : Option Addr) (n c : Nat) (hn : Hid (o.row.length = n)) (hq : Hid (plB o.row = q)) (w : World) (hr : Ri w A c o.row) :
    Calls Tryz.prog 67 #[.agg #[.int .u8 o.kd, .int .u8 o.l, .int .u32 o.c, .int .u8 o.k, .int .i64 o.s, .int .u8 o.fl, .int .u32 o.fc, .int .u8 o.fk, .int .i64 o.fn, .int .i64 o.fm, .int .u8 o.al, .int .u32 o.ac, .int .u8 o.ak, .int .i64 o.an, .int .u8 o.tl, .int .u32 o.tc, .slice A n c]] w fun e w' => e = .returned (.bool q) ∧ Below w.heap.size w w' := by
  have hc2 : (c : Int) ≤ 9223372036854775807 := by have := hr.cap; omega
  have hc1 : (n : Int) ≤ c := by have := hr.len; have := hn.out; omega
  go_enter Tryz.func67, Tryz.ntmps67
  go_wp2_with fail
  generalize hW : w.alloc _ = W
  have hbW : Below w.heap.size w W := by subst hW; go_grown
  have s16 := (show BoxO W w.heap.size o A n c by subst hW; exact boxO_new w o A n c 33).c16
  have HR := hid (hr.keep hbW)
  clear hr hW
  go_wp2
  go_loop [3] (fun i => ∃ j : Nat, j ≤ n ∧ i = .int .i64 (j : Int) ∧ Hid (plB (o.row.take j) = true)) (fun i => n - (intOf i).toNat)
  case atStart => exact ⟨0, by omega, rfl, hid rfl⟩
  case round =>
    obtain ⟨j, hj, rfl, hz⟩ := hrel
    by_cases hlt : j < n
    · have hl := hn.out
      obtain ⟨b, u, rfl, hcell⟩ := HR.out.at_ (by omega)
      have h1 := hcell j (by omega)
      have hs := plB_take (l := o.row) (j := j) (by omega)
      have hat := ixB_at (l := o.row) (j := j) (by omega) hz.out
      generalize o.row[j]'(by omega) = d at h1 hs hat
      have hlt2 : (j : Int) < (n : Int) := by omega
      have HS := hid hs
      have HA := hid hat
      clear hs hcell hl hat
      by_cases hd : d = -1
      · have hd2 : (d == -1) = true := by subst hd; rfl
        have HD := hid hd
        clear hd
        go_wp2
        go_ret
        exact ⟨ret_bool (by rw [← hq.out, (HA.out HD.out).2]), hbW⟩
      · have hd2 : (d == -1) = false := by simpa using hd
        clear hd
        have HD := hid hd2
        go_wp2
        go_round
        case rel => exact ⟨j + 1, by omega, by go_num, hid (by rw [HS.out, hz.out, HD.out]; rfl)⟩
        case measure => simp [intOf]; omega
    · have ej : o.row.take j = o.row := List.take_of_length_le (by have := hn.out; omega)
      have hlt2 : ¬ (j : Int) < (n : Int) := by omega
      have HE := hid ej
      clear ej
      go_wp2
      go_ret
      exact ⟨ret_bool (by rw [← hq.out, ← HE.out, hz.out]), hbW⟩
end Go.Proofs.YtndmblhkmgnpcaaGreat
