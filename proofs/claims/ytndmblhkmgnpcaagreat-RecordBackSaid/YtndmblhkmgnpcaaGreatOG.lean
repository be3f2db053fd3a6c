/-
  The document's own Bytes of layer 9.
-/
import Derived.Test.YtndmblhkmgnpcaaGreatOA
import Derived.Test.YtndmblhkmgnpcaaGreatOI
import Derived.Deep.RegionHeldLaw
namespace Go.Proofs.YtndmblhkmgnpcaaGreat
open Go.RowKit
set_option linter.unusedVariables false
set_option linter.unusedSimpArgs false

theorem mayH_of (q : Bool) (l c k : Int) (h : Hid (mayH l k = q)) (w : World) :
    Calls Tryz.prog 65 #[.agg #[.int .u8 l, .int .u32 c, .int .u8 k]] w fun e w' => e = .returned (.bool q) ∧ Below w.heap.size w w' := by
  rw [← h.out]; exact mayHandle_any l c k w
theorem mayI_of (q : Bool) (l c k n : Int) (h : Hid (mayI l k n = q)) (w : World) :
    Calls Tryz.prog 94 #[.agg #[.int .u8 l, .int .u32 c, .int .u8 k, .int .i64 n]] w fun e w' => e = .returned (.bool q) ∧ Below w.heap.size w w' := by
  rw [← h.out]; exact mayId_any l c k n w
theorem mayS_of (q : Bool) (l c k n m : Int) (hm0 : -9223372036854775808 ≤ m) (h : Hid (mayS l k n m = q)) (w : World) :
    Calls Tryz.prog 92 #[.agg #[.int .u8 l, .int .u32 c, .int .u8 k, .int .i64 n, .int .i64 m]] w fun e w' => e = .returned (.bool q) ∧ Below w.heap.size w w' := by
  rw [← h.out]; exact maySpan_any l c k n m hm0 w
theorem mayL_of (q : Bool) (l c : Int) (h : Hid (mayL l = q)) (w : World) :
    Calls Tryz.prog 91 #[.agg #[.int .u8 l, .int .u32 c]] w fun e w' => e = .returned (.bool q) ∧ Below w.heap.size w w' := by
  rw [← h.out]; exact mayL_any l c w

theorem zero_of (z : Bool) (l c k n : Int) (h : Hid (sameI l c k n 0 0 0 0 = z)) (w : World) :
    Calls Tryz.prog 93 #[.agg #[.int .u8 l, .int .u32 c, .int .u8 k, .int .i64 n]] w fun e w' => e = .returned (.bool z) ∧ Below w.heap.size w w' := by
  have hE : ∀ W, (binOp .eql 28 (.agg #[.int .u8 l, .int .u32 c, .int .u8 k, .int .i64 n]) (.agg #[.int .u8 0, .int .u32 0, .int .u8 0, .int .i64 0])).run Tryz.prog W = .ok (.bool z) W := fun W => by rw [← h.out]; exact eql_id W _ _ _ _ _ _ _ _
  go_enter Tryz.func93, Tryz.ntmps93
  go_wp2
  go_ret
  exact ⟨rfl, by go_grown⟩

set_option maxRecDepth 100000 in
set_option maxHeartbeats 3200000 in
theorem rmay_of (q : Bool) (o : Opd) (A : Option Addr) (n c : Nat) (hn : Hid (o.row.length = n)) (hq : Hid (mayO o = q)) (hm0 : -9223372036854775808 ≤ o.fm) (w : World) (hr : Ri w A c o.row) :
    Calls Tryz.prog 66 #[.agg #[.int .u8 o.kd, .int .u8 o.l, .int .u32 o.c, .int .u8 o.k, .int .i64 o.s, .int .u8 o.fl, .int .u32 o.fc, .int .u8 o.fk, .int .i64 o.fn, .int .i64 o.fm, .int .u8 o.al, .int .u32 o.ac, .int .u8 o.ak, .int .i64 o.an, .int .u8 o.tl, .int .u32 o.tc, .slice A n c]] w fun e w' => e = .returned (.bool q) ∧ Below w.heap.size w w' := by
  have h := hq.out
  clear hq
  obtain ⟨q1, h1⟩ : ∃ q, mayH o.l o.k = q := ⟨_, rfl⟩
  obtain ⟨q2, h2⟩ : ∃ q, mayS o.fl o.fk o.fn o.fm = q := ⟨_, rfl⟩
  have H1 := hid h1
  have H2 := hid h2
  rw [mayO, headB, h1, h2] at h
  clear h1 h2
  cases q1
  · have HQ := hid (show false = q by simpa using h)
    clear h hn hr
    go_enter Tryz.func66, Tryz.ntmps66
    go_wp2_with fail
    go_call mayH_of false _ _ _ H1 _ as e w1 ⟨rfl, b1⟩
    go_wp2
    go_ret
    exact ⟨ret_bool HQ.out, past_alloc b1⟩
  by_cases s1 : 1 ≤ o.s
  rotate_left
  · have d1 : decide (o.s < 1) = true := decide_eq_true (by omega)
    have HQ := hid (show false = q by rw [decide_eq_false s1] at h; simpa using h)
    clear h hn hr s1
    go_enter Tryz.func66, Tryz.ntmps66
    go_wp2_with fail
    go_call mayH_of true _ _ _ H1 _ as e w1 ⟨rfl, b1⟩
    obtain ⟨s0, s1, s2, s3, s4, s5, s6, s7, s8, s9, s10, s11, s12, s13, s14, s15, s16⟩ := (boxO_new w o A n c 33).keep b1
    go_wp2
    go_ret
    exact ⟨ret_bool HQ.out, past_alloc b1⟩
  have d1 : decide (o.s < 1) = false := decide_eq_false (by omega)
  by_cases s2 : o.s < 16777216
  rotate_left
  · have d2 : decide (16777216 ≤ o.s) = true := decide_eq_true (by omega)
    have HQ := hid (show false = q by rw [decide_eq_false s2] at h; simpa using h)
    clear h hn hr s1 s2
    go_enter Tryz.func66, Tryz.ntmps66
    go_wp2_with fail
    go_call mayH_of true _ _ _ H1 _ as e w1 ⟨rfl, b1⟩
    obtain ⟨s0, s1, s2, s3, s4, s5, s6, s7, s8, s9, s10, s11, s12, s13, s14, s15, s16⟩ := (boxO_new w o A n c 33).keep b1
    go_wp2
    go_ret
    exact ⟨ret_bool HQ.out, past_alloc b1⟩
  have d2 : decide (16777216 ≤ o.s) = false := decide_eq_false (by omega)
  rw [decide_eq_true s1, decide_eq_true s2] at h
  have HT := hid (show (q2 && tailB o) = q by simpa using h)
  clear h s1 s2
  go_enter Tryz.func66, Tryz.ntmps66
  go_wp2_with fail
  go_call mayH_of true _ _ _ H1 _ as e w1 ⟨rfl, b1⟩
  have bx := (boxO_new w o A n c 33).keep b1
  replace b1 := past_alloc b1
  have bx1 := bx
  obtain ⟨s0, s1, s2, s3, s4, s5, s6, s7, s8, s9, s10, s11, s12, s13, s14, s15, s16⟩ := bx1
  go_wp2_with fail
  go_call mayS_of q2 _ _ _ _ _ hm0 H2 _ as e w2 ⟨rfl, b2⟩
  clear s0 s1 s2 s3 s4 s5 s6 s7 s8 s9 s10 s11 s12 s13 s14 s15 s16
  replace bx := bx.keep b2
  replace b2 := below_in b1 b2
  cases q2
  · go_wp2
    go_ret
    exact ⟨ret_bool HT.out, b2⟩
  have ht := HT.out
  rw [Bool.true_and] at ht
  obtain ⟨z, hz⟩ : ∃ z, sameL o.tl o.tc 0 0 = z := ⟨_, rfl⟩
  have hE : ∀ W, (binOp .eql 24 (.agg #[.int .u8 (o.tl), .int .u32 (o.tc)]) (.agg #[.int .u8 0, .int .u32 0])).run Tryz.prog W = .ok (.bool z) W := fun W => by rw [← hz]; exact eql_label W _ _ _ _
  obtain ⟨u, hu⟩ : ∃ u, sameI o.al o.ac o.ak o.an 0 0 0 0 = u := ⟨_, rfl⟩
  have HU := hid hu
  have bx1 := bx
  obtain ⟨s0, s1, s2, s3, s4, s5, s6, s7, s8, s9, s10, s11, s12, s13, s14, s15, s16⟩ := bx1
  clear H1 H2 HT d1 d2 b1
  by_cases k1 : o.kd = 1
  · have e1 : (o.kd == 1) = true := by simpa using k1
    rw [tailB, if_pos k1, hz, aftB, hu] at ht
    cases z
    · have HQ := hid (show false = q by simpa using ht)
      clear ht hz hu k1
      go_wp2
      go_ret
      exact ⟨ret_bool HQ.out, b2⟩
    obtain ⟨x, hx⟩ : ∃ x, mayI o.al o.ak o.an = x := ⟨_, rfl⟩
    obtain ⟨y, hy⟩ : ∃ y, sameH o.fl o.fc o.fk o.l o.c o.k = y := ⟨_, rfl⟩
    have hF : ∀ W, (binOp .eql 26 (.agg #[.int .u8 (o.fl), .int .u32 (o.fc), .int .u8 (o.fk)]) (.agg #[.int .u8 (o.l), .int .u32 (o.c), .int .u8 (o.k)])).run Tryz.prog W = .ok (.bool y) W := fun W => by rw [← hy]; exact eql_handle W _ _ _ _ _ _
    obtain ⟨j, hj⟩ : ∃ j, chk o.row = j := ⟨_, rfl⟩
    have HX := hid hx
    have HJ := hid hj
    obtain ⟨p, hp⟩ : ∃ p, ((n : Int) == o.fm) = p := ⟨_, rfl⟩
    have hp2 : decide ((o.row.length : Int) = o.fm) = p := by rw [hn.out, ← hp, Bool.beq_eq_decide_eq]
    have hj2 : decide (chk o.row = 0) = (j == 0) := by rw [hj, Bool.beq_eq_decide_eq]
    rw [hx, hy, rowB, hp2, hj2] at ht
    have HQ := hid ht
    clear ht hz hu hx hy hj hp2 hj2 k1
    go_wp2_with fail
    go_call zero_of u _ _ _ _ HU _ as e w3 ⟨rfl, b3⟩
    clear s0 s1 s2 s3 s4 s5 s6 s7 s8 s9 s10 s11 s12 s13 s14 s15 s16
    replace bx := bx.keep b3
    replace b3 := below_in b2 b3
    have bx1 := bx
    obtain ⟨s0, s1, s2, s3, s4, s5, s6, s7, s8, s9, s10, s11, s12, s13, s14, s15, s16⟩ := bx1
    cases u
    · go_wp2_with fail
      go_call mayI_of x _ _ _ _ HX _ as e w4 ⟨rfl, b4⟩
      clear s0 s1 s2 s3 s4 s5 s6 s7 s8 s9 s10 s11 s12 s13 s14 s15 s16
      replace bx := bx.keep b4
      replace b4 := below_in b3 b4
      have bx1 := bx
      obtain ⟨s0, s1, s2, s3, s4, s5, s6, s7, s8, s9, s10, s11, s12, s13, s14, s15, s16⟩ := bx1
      go_wp2_with (go_at_call 95; refine (refcheck_of j A n c o.row hn HJ _ (hr.keep b4)).mono ?_; rintro e w5 ⟨rfl, rfl⟩)
      all_goals
        go_ret
        refine ⟨ret_bool ?_, b4⟩
        clear hE hF hr
        simp [← HQ.out, *]
    · go_wp2_with (go_at_call 95; refine (refcheck_of j A n c o.row hn HJ _ (hr.keep b3)).mono ?_; rintro e w5 ⟨rfl, rfl⟩)
      all_goals
        go_ret
        refine ⟨ret_bool ?_, b3⟩
        clear hE hF hr
        simp [← HQ.out, *]
  · have e1 : (o.kd == 1) = false := by simpa using k1
    rw [tailB, if_neg k1, hz] at ht
    have hnb : nonB o = (u && decide (n = 0)) := by rw [nonB, hu, hn.out]
    rw [hnb] at ht
    have HQ := hid ht
    clear ht hz hu hnb hn hr
    go_wp2_with fail
    go_call zero_of u _ _ _ _ HU _ as e w3 ⟨rfl, b3⟩
    clear s0 s1 s2 s3 s4 s5 s6 s7 s8 s9 s10 s11 s12 s13 s14 s15 s16
    replace bx := bx.keep b3
    replace b3 := below_in b2 b3
    obtain ⟨s0, s1, s2, s3, s4, s5, s6, s7, s8, s9, s10, s11, s12, s13, s14, s15, s16⟩ := bx
    cases u
    · go_wp2
      go_ret
      exact ⟨ret_bool (by rw [← HQ.out]; simp), b3⟩
    by_cases hn0 : n = 0
    · have HQ2 := hid (show (if o.kd = 2 then z else if o.kd = 3 then mayL o.tl else false) = q by rw [← HQ.out, decide_eq_true hn0]; simp)
      subst hn0
      clear HQ
      by_cases k2 : o.kd = 2
      · have e2 : (o.kd == 2) = true := by simpa using k2
        have HQ := hid (show z = q by rw [← HQ2.out, if_pos k2])
        have e3 : (o.kd == 3) = false := by simp; omega
        clear k1 k2 HQ2
        go_wp2
        all_goals
          go_ret
          refine ⟨ret_bool ?_, b3⟩
          clear hE
          simp [← HQ.out, *]
      · have e2 : (o.kd == 2) = false := by simpa using k2
        by_cases k3 : o.kd = 3
        · have e3 : (o.kd == 3) = true := by simpa using k3
          have HQ := hid (show mayL o.tl = q by rw [← HQ2.out, if_neg k2, if_pos k3])
          clear k1 k2 k3 HQ2
          go_wp2_with (go_at_call 91; refine (mayL_of q _ _ HQ _).mono ?_; rintro e w4 ⟨rfl, b4⟩)
          go_ret
          exact ⟨rfl, below_in b3 b4⟩
        · have e3 : (o.kd == 3) = false := by simpa using k3
          have HQ := hid (show false = q by rw [← HQ2.out, if_neg k2, if_neg k3])
          clear k1 k2 k3 HQ2
          go_wp2
          go_ret
          exact ⟨ret_bool HQ.out, b3⟩
    · have d4 : decide (0 < n) = true := decide_eq_true (by omega)
      have HQ2 := hid (show false = q by rw [← HQ.out, decide_eq_false hn0]; simp)
      clear HQ hn0
      go_wp2
      go_ret
      exact ⟨ret_bool HQ2.out, b3⟩

end Go.Proofs.YtndmblhkmgnpcaaGreat

namespace Go.Proofs.YtndmblhkmgnpcaaGreat
open Go.RowKit
set_option linter.unusedVariables false
set_option linter.unusedSimpArgs false

theorem rnamed_of (l c k : Int) (hh : Han l c k) (w : World) :
    Calls Tryz.prog 97 #[.agg #[.int .u8 l, .int .u32 c, .int .u8 k]] w fun e w' => ∃ A' c', e = .returned (.slice A' 6 c') ∧ Own w' w.heap.size 5 A' c' (hB l c k) ∧ Below w.heap.size w w' :=
  named_any l c k _ _ _ (hid (hn_of hh.lab hh.k0 hh.k1)) w
theorem rid_of (l c k n : Int) (hh : Han l c k) (n0 : 0 ≤ n) (n1 : n < 9223372036854775808) (w : World) :
    Calls Tryz.prog 126 #[.agg #[.int .u8 l, .int .u32 c, .int .u8 k, .int .i64 n]] w fun e w' => ∃ A' c', e = .returned (.slice A' 13 c') ∧ Rd w' A' c' (iB l c k n) ∧ Below w.heap.size w w' :=
  bytes_any l c k n _ _ _ (hid (hn_of hh.lab hh.k0 hh.k1)) n0 n1 w
theorem rwide_of (A : Option Addr) (n c : Nat) (l : List Int) (k : Nat) (hn : Hid (l.length = n)) (h5 : n ≤ 1000) (hok : Hid (l.all okN = true)) (hk : Hid ((wide l).length = k)) (w : World) (hr : Ri w A c l) :
    Calls Tryz.prog 127 #[.slice A n c] w fun e w' => ∃ A' c', e = .returned (.slice A' k c') ∧ Rd w' A' c' (wide l) ∧ Below w.heap.size w w' := by
  refine (wide_any A n c l hn h5 hok w hr).mono ?_
  rintro e w' ⟨A', c', rfl, h1, h2⟩
  rw [hk.out]
  exact ⟨A', c', rfl, h1, h2⟩
theorem own_kd (w : World) (base : Nat) (hb : base ≤ w.heap.size) (z : Int) (h0 : 0 ≤ z) (h1 : z ≤ 255) : Own (w.alloc (.cells #[.int .u8 z] 5)) base 5 (some ⟨w.heap.size, 0, none⟩) 1 (nB 1 z) := by
  rw [nB_one h0 h1]
  exact own_one w base _ rfl hb z _ (hid (by rw [ofNat_toNat (by omega)]; omega))
theorem dg3 {z : Int} (h0 : 0 ≤ z) (h1 : z < 16777216) : u8s (nB 3 z) = [.int .u8 (z / 65536), .int .u8 (z / 256 % 256), .int .u8 (z % 256)] := by
  have e : nB 3 z = [UInt8.ofNat (z.toNat / 256 / 256 % 256), UInt8.ofNat (z.toNat / 256 % 256), UInt8.ofNat (z.toNat % 256)] := by simp [nB, dg]
  have k : ∀ x : Nat, x < 256 → ((UInt8.ofNat x).toNat : Int) = x := fun x h => by rw [ofNat_toNat h]
  rw [e]
  simp only [u8s, List.map_cons, List.map_nil]
  rw [k _ (by omega), k _ (by omega), k _ (by omega)]
  have e1 : ((z.toNat / 256 / 256 % 256 : Nat) : Int) = z / 65536 := by omega
  have e2 : ((z.toNat / 256 % 256 : Nat) : Int) = z / 256 % 256 := by omega
  have e3 : ((z.toNat % 256 : Nat) : Int) = z % 256 := by omega
  rw [e1, e2, e3]

theorem hB_five {l c : Int} (h : Lab l c) : (hB l c 0).take 5 = nB 1 l ++ nB 4 c := by
  obtain ⟨x, y, z, u, h4⟩ := four_of (dg_length 4 c.toNat)
  have e : hB l c 0 = [UInt8.ofNat l.toNat, x, y, z, u, UInt8.ofNat 0] := by simp [hB, hby, h4]
  rw [e, nB_one h.l0 h.l1, nB, h4]
  rfl

set_option maxRecDepth 100000 in
set_option maxHeartbeats 6400000 in
theorem rbytes_of (m : Nat) (o : Opd) (A : Option Addr) (n c : Nat) (hn : Hid (o.row.length = n)) (hr : Opr o) (hm : mayO o = true) (hl : Hid ((opb o).length = m)) (w : World) (hri : Ri w A c o.row) :
    Calls Tryz.prog 98 #[.agg #[.int .u8 o.kd, .int .u8 o.l, .int .u32 o.c, .int .u8 o.k, .int .i64 o.s, .int .u8 o.fl, .int .u32 o.fc, .int .u8 o.fk, .int .i64 o.fn, .int .i64 o.fm, .int .u8 o.al, .int .u32 o.ac, .int .u8 o.ak, .int .i64 o.an, .int .u8 o.tl, .int .u32 o.tc, .slice A n c]] w fun e w' => ∃ A' c', e = .returned (.slice A' m c') ∧ Rd w' A' c' (opb o) ∧ Below w.heap.size w w' := by
  obtain ⟨i0, hi0, hz0, hz1, hz2⟩ := info_parts info_u8
  have md := maid hm
  have hI := mayS_I md.hs
  have hIn := mayI_n hI
  have han := hr.han
  have hid0 := hr.spn.idn.han
  have k0 := hr.k0
  have k1 := hr.k1
  have sn0 : 0 ≤ o.s := by have := md.s1; omega
  have sn1 : o.s < 16777216 := md.s2
  have m0 : 0 ≤ o.fm := by have := md.m1; omega
  have m1 : o.fm ≤ 64 := md.m2
  have fn0 : 0 ≤ o.fn := by omega
  have fn1 : o.fn < 9223372036854775808 := by omega
  have HMD := hid md
  have HR := hid hr
  have HD3 := hid (dg3 sn0 sn1)
  clear hI hIn md hr hm
  go_enter Tryz.func98, Tryz.ntmps98
  go_wp2_with fail
  generalize hW : World.alloc _ _ = W
  have hb : Below w.heap.size w W := by subst hW; go_grown
  have bx : BoxO W w.heap.size o A n c := by subst hW; exact boxO_new w o A n c 33
  replace hri := hri.keep hb
  clear hW
  have bx1 := bx
  obtain ⟨s0, s1, s2, s3, s4, s5, s6, s7, s8, s9, s10, s11, s12, s13, s14, s15, s16⟩ := bx1
  (have q0 := fun w' (h : Below W.heap.size W w') => keep h s0; have q1 := fun w' (h : Below W.heap.size W w') => keep h s1; have q2 := fun w' (h : Below W.heap.size W w') => keep h s2; have q3 := fun w' (h : Below W.heap.size W w') => keep h s3; have q4 := fun w' (h : Below W.heap.size W w') => keep h s4; have q5 := fun w' (h : Below W.heap.size W w') => keep h s5; have q6 := fun w' (h : Below W.heap.size W w') => keep h s6; have q7 := fun w' (h : Below W.heap.size W w') => keep h s7; have q8 := fun w' (h : Below W.heap.size W w') => keep h s8; have q9 := fun w' (h : Below W.heap.size W w') => keep h s9; have q10 := fun w' (h : Below W.heap.size W w') => keep h s10; have q11 := fun w' (h : Below W.heap.size W w') => keep h s11; have q12 := fun w' (h : Below W.heap.size W w') => keep h s12; have q13 := fun w' (h : Below W.heap.size W w') => keep h s13; have q14 := fun w' (h : Below W.heap.size W w') => keep h s14; have q15 := fun w' (h : Below W.heap.size W w') => keep h s15; have q16 := fun w' (h : Below W.heap.size W w') => keep h s16)
  clear s0 s1 s2 s3 s4 s5 s6 s7 s8 s9 s10 s11 s12 s13 s14 s15 s16
  clear q4 q5 q6 q7 q8 q9 q10 q11 q12 q13 q14 q15 q16
  have S0 : Below W.heap.size W W.drew := (Below.refl _ _).drew
  have S1 : Below W.heap.size W (W.alloc (.cells #[.int .u8 o.kd] 5)).drew := ((Below.refl _ _).alloc (Nat.le_refl _) _).drew
  have ok0 : Own (W.alloc (.cells #[.int .u8 o.kd] 5)).drew W.heap.size 5 (some ⟨W.heap.size, 0, none⟩) 1 (nB 1 o.kd) := own_kd W W.heap.size (Nat.le_refl _) _ k0 k1
  have ok1 := fun (X : World) (h : Below W.heap.size W X) => own_kd X W.heap.size h.size _ k0 k1
  go_region_held_law (fun w' => Below W.heap.size W w') (with_reducible (first | assumption | exact S0 | exact S1 | exact below_step S0 hb1 | exact below_step S1 hb1 | exact below_al (below_step S0 hb1) _ | exact hb3.trans hb4 | exact (below_step S1 hb1).trans hb4 | exact (below_al (below_step S0 hb1) _).trans hb4 | exact Below.alloc (by assumption) (Below.size (by assumption)) _))
    (first
      | (refine step_append_rd rfl (.tmp 6) (.tmp 9) _ (by rfl) W.heap.size 5 Tryz.underlying51 hi0 hz0 hz1 hz2 (some ⟨W.heap.size, 0, none⟩) 1 1 (nB 1 o.kd) (hid (nB_length _ _)) (by rfl) (ok0.keep hb1) A1 6 c1 (hB o.l o.c o.k) (hid (hB_length _ _ _)) (by rfl) ho1.rd (by omega) (by exact Below.size (w := W) (below_step S1 hb1)) ?_; intro A4 c4 w4 ho4 hb4)
      | (refine step_append_rd rfl (.tmp 6) (.tmp 9) _ (by rfl) W.heap.size 5 Tryz.underlying51 hi0 hz0 hz1 hz2 (some ⟨w2.heap.size, 0, none⟩) 1 1 (nB 1 o.kd) (hid (nB_length _ _)) (by rfl) (ok1 w2 (below_step S0 hb1)) A1 6 c1 (hB o.l o.c o.k) (hid (hB_length _ _ _)) (by rfl) (ho1.rd.alloc _) (by omega) (by exact Below.size (w := W) (below_al (below_step S0 hb1) _)) ?_; intro A4 c4 w4 ho4 hb4)
      | (go_simp; go_at_call 97; refine (rnamed_of o.l o.c o.k han _).mono ?_; rintro e w2 ⟨A1, c1, rfl, ho1, hb1⟩))
  all_goals
    have hW4 : Below W.heap.size W w4 := by assumption
    clear hb4 S0 S1 ok0 ok1 q0 q1 q2 q3 ho1 hb1
    obtain ⟨s0, s1, s2, s3, s4, s5, s6, s7, s8, s9, s10, s11, s12, s13, s14, s15, s16⟩ := bx.keep hW4
    have L3 := lit_rd w4 (nB 3 o.s) (by rw [nB_length]; omega)
    rw [HD3.out, nB_length] at L3
    go_simp
    go_wp2_with (at_builtin; refine wpList_append_rd rfl (.tmp 11) (.tmp 25) _ rfl W.heap.size 5 Tryz.underlying51 hi0 hz0 hz1 hz2 A4 7 c4 _ (hid (by simp [nB_length, hB_length, iB_length])) rfl (ho4.keep ((Below.refl _ _).alloc (Nat.le_refl _) _)) (some ⟨w4.heap.size, 0, none⟩) 3 3 _ (hid (by simp [nB_length, hB_length, iB_length])) rfl L3 (by omega) (by have := hW4.size; simp; omega) ?_; intro A5 c5 w5 ho5 b5; have hW5 := (below_al hW4 _).trans b5; obtain ⟨t0, t1, t2, t3, t4, t5, t6, t7, t8, t9, t10, t11, t12, t13, t14, t15, t16⟩ := bx.keep hW5)
    clear s0 s1 s2 s3 s4 s5 s6 s7 s8 s9 s10 s11 s12 s13 s14 s15 s16 L3
    refine (rid_of _ _ _ _ hid0 fn0 fn1 _).mono ?_
    rintro e w6 ⟨A6, c6, rfl, hr6, b6⟩
    have hW6 := below_in hW5 b6
    replace ho5 := ho5.keep b6
    clear t0 t1 t2 t3 t4 t5 t6 t7 t8 t9 t10 t11 t12 t13 t14 t15 t16
    rcases HMD.out.kd with hk | hk | hk
    · have e1 : (o.kd == 1) = true := by simpa using hk
      have e3 : (o.kd == 3) = false := by simp; omega
      obtain ⟨u, hu⟩ : ∃ u, sameI o.al o.ac o.ak o.an 0 0 0 0 = u := ⟨_, rfl⟩
      have HU := hid hu
      have hin := HMD.out.ins hk
      obtain ⟨hch1, hch2⟩ := chk_zero.1 hin.2.2.1
      have HOK := hid hch2
      obtain ⟨k, hkk⟩ : ∃ k, (wide o.row).length = k := ⟨_, rfl⟩
      have hn5 : n ≤ 1000 := by have := hn.out; omega
      have hk5 : k ≤ 256 := by rw [← hkk, wide_length]; omega
      have HK := hid hkk
      have HAF := hid hin.1
      have HLM := hid (show 37 + k = m by rw [← hl.out, opb, List.length_append, headO_length, tailO, if_pos hk, List.length_append, iB_length, hkk]; omega)
      have hT : tailO o = iB o.al o.ac o.ak o.an ++ wide o.row := if_pos hk
      have HT := hid hT
      clear hk hin hch1 hch2 hkk hT hu
      go_wp2_with (first
        | (at_builtin; refine wpList_append_rd rfl (.tmp 27) (.tmp 31) _ rfl W.heap.size 5 Tryz.underlying51 hi0 hz0 hz1 hz2 A5 10 c5 _ (hid (by simp [nB_length, hB_length, iB_length])) rfl ho5 A6 13 c6 _ (hid (by simp [nB_length, hB_length, iB_length])) rfl hr6 (by omega) hW6.size ?_; intro A7 c7 w7 ho7 b7; have hW7 := hW6.trans b7; obtain ⟨t0, t1, t2, t3, t4, t5, t6, t7, t8, t9, t10, t11, t12, t13, t14, t15, t16⟩ := bx.keep hW7)
        | (at_builtin; refine wpList_append_rd rfl (.tmp 33) (.tmp 38) _ rfl W.heap.size 5 Tryz.underlying51 hi0 hz0 hz1 hz2 A7 23 c7 _ (hid (by simp [nB_length, hB_length, iB_length])) rfl (ho7.keep ((Below.refl _ _).alloc (Nat.le_refl _) _)) (some ⟨w7.heap.size, 0, none⟩) 1 1 _ (hid (by simp [nB_length, hB_length, iB_length])) rfl (lit_kd w7 _ m0 (by omega)) (by omega) (by have := hW7.size; simp; omega) ?_; intro A8 c8 w8 ho8 b8; have hW8 := (below_al hW7 _).trans b8; clear t0 t1 t2 t3 t4 t5 t6 t7 t8 t9 t10 t11 t12 t13 t14 t15 t16; obtain ⟨s0, s1, s2, s3, s4, s5, s6, s7, s8, s9, s10, s11, s12, s13, s14, s15, s16⟩ := bx.keep hW8))
      refine (zero_of u _ _ _ _ HU _).mono ?_
      rintro e w9 ⟨rfl, b9⟩
      have hW9 := below_in hW8 b9
      replace ho8 := ho8.keep b9
      clear s0 s1 s2 s3 s4 s5 s6 s7 s8 s9 s10 s11 s12 s13 s14 s15 s16
      obtain ⟨s0, s1, s2, s3, s4, s5, s6, s7, s8, s9, s10, s11, s12, s13, s14, s15, s16⟩ := bx.keep hW9
      cases u
      · have hmI : mayI o.al o.ak o.an = true := by have := HAF.out; rw [aftB, HU.out] at this; simpa using this
        have hrg := mayI_n hmI
        have an0 : 0 ≤ o.an := by omega
        have an1 : o.an < 9223372036854775808 := by omega
        have hah := HR.out.aft.han
        clear hmI hrg
        go_wp2_with fail
        refine (rid_of _ _ _ _ hah an0 an1 _).mono ?_
        rintro e w10 ⟨A9, c9, rfl, hr9, b10⟩
        have hW10a := below_in hW9 b10
        replace ho8 := ho8.keep b10
        clear s0 s1 s2 s3 s4 s5 s6 s7 s8 s9 s10 s11 s12 s13 s14 s15 s16
        have HLO := hid (show nB 1 o.kd ++ hB o.l o.c o.k ++ nB 3 o.s ++ iB o.fl o.fc o.fk o.fn ++ nB 1 o.fm ++ iB o.al o.ac o.ak o.an ++ wide o.row = opb o by rw [opb, headO, HT.out]; simp)
        go_wp2_with (at_builtin; refine wpList_append_rd rfl (.tmp 48) (.tmp 51) _ rfl W.heap.size 5 Tryz.underlying51 hi0 hz0 hz1 hz2 A8 24 c8 _ (hid (by simp [nB_length, hB_length, iB_length])) rfl ho8 A9 13 c9 _ (hid (by simp [nB_length, hB_length, iB_length])) rfl hr9 (by omega) hW10a.size ?_; intro A10 c10 w10 ho10 b10; have hW10 := hW10a.trans b10; obtain ⟨t0, t1, t2, t3, t4, t5, t6, t7, t8, t9, t10, t11, t12, t13, t14, t15, t16⟩ := bx.keep hW10)
        refine (rwide_of A n c o.row k hn hn5 HOK HK _ (hri.keep hW10)).mono ?_
        rintro e w11 ⟨A11, c11, rfl, hr11, b11⟩
        have hW11 := below_in hW10 b11
        replace ho10 := ho10.keep b11
        clear t0 t1 t2 t3 t4 t5 t6 t7 t8 t9 t10 t11 t12 t13 t14 t15 t16
        go_wp2_with (at_builtin; refine wpList_append_rd rfl (.tmp 53) (.tmp 56) _ rfl W.heap.size 5 Tryz.underlying51 hi0 hz0 hz1 hz2 A10 37 c10 _ (hid (by simp [nB_length, hB_length, iB_length])) rfl ho10 A11 k c11 _ HK rfl hr11 (by omega) hW11.size ?_; intro A12 c12 w12 ho12 b12; have hW12 := hW11.trans b12; obtain ⟨s0, s1, s2, s3, s4, s5, s6, s7, s8, s9, s10, s11, s12, s13, s14, s15, s16⟩ := bx.keep hW12)
        go_ret
        exact ⟨_, _, by rw [HLM.out]; rfl, by rw [← HLO.out]; exact ho12.rd, below_in hb hW12⟩
      · obtain ⟨z1, z2, z3, z4⟩ := sameI_zero HU.out
        have HLO := hid (show nB 1 o.kd ++ hB o.l o.c o.k ++ nB 3 o.s ++ iB o.fl o.fc o.fk o.fn ++ nB 1 o.fm ++ List.replicate 13 0 ++ wide o.row = opb o by rw [opb, headO, HT.out, z1, z2, z3, z4, iB_zero]; simp)
        clear z1 z2 z3 z4
        go_wp2_with (refine wpList_append_zeros rfl (.tmp 46) (.const (.int .i64 13)) 51 3 rfl W.heap.size 5 Tryz.underlying51 Tryz.underlying3 hi0 hz0 hz1 hz2 A8 24 c8 _ (hid (by simp [nB_length, hB_length, iB_length])) rfl ho8 .i64 13 13 (hid rfl) rfl (by omega) (by omega) hW9.size ?_; intro A10 c10 w10 ho10 b10; have hW10 := hW9.trans b10; obtain ⟨t0, t1, t2, t3, t4, t5, t6, t7, t8, t9, t10, t11, t12, t13, t14, t15, t16⟩ := bx.keep hW10)
        refine (rwide_of A n c o.row k hn hn5 HOK HK _ (hri.keep hW10)).mono ?_
        rintro e w11 ⟨A11, c11, rfl, hr11, b11⟩
        have hW11 := below_in hW10 b11
        replace ho10 := ho10.keep b11
        clear t0 t1 t2 t3 t4 t5 t6 t7 t8 t9 t10 t11 t12 t13 t14 t15 t16
        go_wp2_with (at_builtin; refine wpList_append_rd rfl (.tmp 53) (.tmp 56) _ rfl W.heap.size 5 Tryz.underlying51 hi0 hz0 hz1 hz2 A10 37 c10 _ (hid (by simp [nB_length, hB_length, iB_length])) rfl ho10 A11 k c11 _ HK rfl hr11 (by omega) hW11.size ?_; intro A12 c12 w12 ho12 b12; have hW12 := hW11.trans b12; obtain ⟨s0, s1, s2, s3, s4, s5, s6, s7, s8, s9, s10, s11, s12, s13, s14, s15, s16⟩ := bx.keep hW12)
        go_ret
        exact ⟨_, _, by rw [HLM.out]; rfl, by rw [← HLO.out]; exact ho12.rd, below_in hb hW12⟩
    · have e1 : (o.kd == 1) = false := by simp; omega
      have e3 : (o.kd == 3) = false := by simp; omega
      have HLM := hid (show 24 = m by rw [← hl.out, opb, List.length_append, headO_length, tailO, if_neg (by omega), if_neg (by omega)]; rfl)
      have HLO := hid (show nB 1 o.kd ++ hB o.l o.c o.k ++ nB 3 o.s ++ iB o.fl o.fc o.fk o.fn ++ nB 1 o.fm = opb o by rw [opb, headO, tailO, if_neg (by omega), if_neg (by omega)]; simp)
      clear hk
      go_wp2_with (first
        | (at_builtin; refine wpList_append_rd rfl (.tmp 27) (.tmp 31) _ rfl W.heap.size 5 Tryz.underlying51 hi0 hz0 hz1 hz2 A5 10 c5 _ (hid (by simp [nB_length, hB_length, iB_length])) rfl ho5 A6 13 c6 _ (hid (by simp [nB_length, hB_length, iB_length])) rfl hr6 (by omega) hW6.size ?_; intro A7 c7 w7 ho7 b7; have hW7 := hW6.trans b7; obtain ⟨t0, t1, t2, t3, t4, t5, t6, t7, t8, t9, t10, t11, t12, t13, t14, t15, t16⟩ := bx.keep hW7)
        | (at_builtin; refine wpList_append_rd rfl (.tmp 33) (.tmp 38) _ rfl W.heap.size 5 Tryz.underlying51 hi0 hz0 hz1 hz2 A7 23 c7 _ (hid (by simp [nB_length, hB_length, iB_length])) rfl (ho7.keep ((Below.refl _ _).alloc (Nat.le_refl _) _)) (some ⟨w7.heap.size, 0, none⟩) 1 1 _ (hid (by simp [nB_length, hB_length, iB_length])) rfl (lit_kd w7 _ m0 (by omega)) (by omega) (by have := hW7.size; simp; omega) ?_; intro A8 c8 w8 ho8 b8; have hW8 := (below_al hW7 _).trans b8; clear t0 t1 t2 t3 t4 t5 t6 t7 t8 t9 t10 t11 t12 t13 t14 t15 t16; obtain ⟨s0, s1, s2, s3, s4, s5, s6, s7, s8, s9, s10, s11, s12, s13, s14, s15, s16⟩ := bx.keep hW8))
      go_ret
      exact ⟨_, _, by rw [HLM.out]; rfl, by rw [← HLO.out]; exact ho8.rd, below_in hb hW8⟩
    · have e1 : (o.kd == 1) = false := by simp; omega
      have e3 : (o.kd == 3) = true := by simpa using hk
      have hT : tailO o = nB 1 o.tl ++ nB 4 o.tc := by rw [tailO, if_neg (by omega), if_pos hk]
      have HLM := hid (show 29 = m by rw [← hl.out, opb, List.length_append, headO_length, hT]; simp [nB_length])
      have HLO := hid (show nB 1 o.kd ++ hB o.l o.c o.k ++ nB 3 o.s ++ iB o.fl o.fc o.fk o.fn ++ nB 1 o.fm ++ (nB 1 o.tl ++ nB 4 o.tc) = opb o by rw [opb, headO, hT]; simp)
      have hlab : Han o.tl o.tc 0 := ⟨HR.out.lab, by omega, by omega⟩
      have HT5 := hid (show (nB 1 o.tl ++ nB 4 o.tc).length = 5 by simp [nB_length])
      clear hk hT
      go_wp2_with (first
        | (at_builtin; refine wpList_append_rd rfl (.tmp 27) (.tmp 31) _ rfl W.heap.size 5 Tryz.underlying51 hi0 hz0 hz1 hz2 A5 10 c5 _ (hid (by simp [nB_length, hB_length, iB_length])) rfl ho5 A6 13 c6 _ (hid (by simp [nB_length, hB_length, iB_length])) rfl hr6 (by omega) hW6.size ?_; intro A7 c7 w7 ho7 b7; have hW7 := hW6.trans b7; obtain ⟨t0, t1, t2, t3, t4, t5, t6, t7, t8, t9, t10, t11, t12, t13, t14, t15, t16⟩ := bx.keep hW7)
        | (at_builtin; refine wpList_append_rd rfl (.tmp 33) (.tmp 38) _ rfl W.heap.size 5 Tryz.underlying51 hi0 hz0 hz1 hz2 A7 23 c7 _ (hid (by simp [nB_length, hB_length, iB_length])) rfl (ho7.keep ((Below.refl _ _).alloc (Nat.le_refl _) _)) (some ⟨w7.heap.size, 0, none⟩) 1 1 _ (hid (by simp [nB_length, hB_length, iB_length])) rfl (lit_kd w7 _ m0 (by omega)) (by omega) (by have := hW7.size; simp; omega) ?_; intro A8 c8 w8 ho8 b8; have hW8 := (below_al hW7 _).trans b8; clear t0 t1 t2 t3 t4 t5 t6 t7 t8 t9 t10 t11 t12 t13 t14 t15 t16; obtain ⟨s0, s1, s2, s3, s4, s5, s6, s7, s8, s9, s10, s11, s12, s13, s14, s15, s16⟩ := bx.keep hW8))
      refine (rnamed_of _ _ _ hlab _).mono ?_
      rintro e w9 ⟨A9, c9, rfl, ho9, b9⟩
      have hW9 := below_in hW8 b9
      replace ho8 := ho8.keep b9
      have hr9 := ho9.rd.take 5
      rw [hB_five HR.out.lab] at hr9
      obtain ⟨xb, xo, rfl, _⟩ := ho9.rd.at_ (by rw [hB_length]; omega)
      have hc9 : (6 : Int) ≤ c9 := by have := ho9.rd.len; rw [hB_length] at this; omega
      have hc92 : (c9 : Int) ≤ 9223372036854775807 := by have := ho9.rd.cap; omega
      clear s0 s1 s2 s3 s4 s5 s6 s7 s8 s9 s10 s11 s12 s13 s14 s15 s16 ho9
      go_wp2_with (at_builtin; refine wpList_append_rd rfl (.tmp 61) (.tmp 66) _ rfl W.heap.size 5 Tryz.underlying51 hi0 hz0 hz1 hz2 A8 24 c8 _ (hid (by simp [nB_length, hB_length, iB_length])) rfl ho8 _ 5 c9 _ HT5 rfl hr9 (by omega) hW9.size ?_; intro A12 c12 w12 ho12 b12; have hW12 := hW9.trans b12)
      go_ret
      exact ⟨_, _, by rw [HLM.out]; rfl, by rw [← HLO.out]; exact ho12.rd, below_in hb hW12⟩
end Go.Proofs.YtndmblhkmgnpcaaGreat
