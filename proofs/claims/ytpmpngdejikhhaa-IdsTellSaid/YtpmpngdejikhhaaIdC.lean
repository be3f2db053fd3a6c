/-
  What is cut is what was there, in two: each id of a span is in just one part, at its place: the statement IdsCut, for every span, numbers and id. Conditions: none.
-/
import Derived.Test.YtpmpngdejikhhaaIdK
import Derived.Test.YtpmpngdejikhhaaIdU
namespace Go.Proofs.Ytpmpngdejikhhaa
open Go.ChangeShapes Go.WideShapes Go.ChangeAt Go.RowKit Go.Joins
set_option linter.unusedVariables false
set_option linter.unusedSimpArgs false

theorem checkSpan_of (j : Int) (l c k n m : Int) (h : Hid (er (mayS l k n m) = j)) (w : World) :
    Calls Try.prog 18 #[.agg #[.int .u8 l, .int .u32 c, .int .u8 k, .int .i64 n, .int .i64 m]] w fun e w' => e = .returned (.int .i64 j) ∧ Below w.heap.size w w' := by
  rw [← h.out]; exact checkSpan_any l c k n m w

/-- An id is in the whole span, and in one part, at its place; or in none. -/
theorem cut_key {l c k n m p i0 i1 i2 i3 : Int} (h : cutB l k n m p = true) :
    mayS l k n m = true ∧ mayS l k n p = true ∧ mayS l k (n + p) (m - p) = true ∧ 1 ≤ p ∧ p < m ∧
    ((hasB l c k n m i0 i1 i2 i3 = false ∧ hasB l c k n p i0 i1 i2 i3 = false ∧ hasB l c k (n + p) (m - p) i0 i1 i2 i3 = false) ∨
     (hasB l c k n m i0 i1 i2 i3 = true ∧ hasB l c k n p i0 i1 i2 i3 = true ∧ hasB l c k (n + p) (m - p) i0 i1 i2 i3 = false ∧ 0 ≤ i3 - n ∧ i3 - n < 64) ∨
     (hasB l c k n m i0 i1 i2 i3 = true ∧ hasB l c k n p i0 i1 i2 i3 = false ∧ hasB l c k (n + p) (m - p) i0 i1 i2 i3 = true ∧ 0 ≤ i3 - n ∧ i3 - n < 64)) := by
  simp only [cutB, Bool.and_eq_true, decide_eq_true_eq] at h
  obtain ⟨hm, hp⟩ := h
  obtain ⟨r1, r2, r3, r4, r5⟩ := mayS_range hm
  have hH : mayH l k = true := by simp [mayS, mayI] at hm; exact hm.1.1
  have m1 : mayS l k n p = true := by simp [mayS, mayI, hH]; omega
  have m2 : mayS l k (n + p) (m - p) = true := by simp [mayS, mayI, hH]; omega
  refine ⟨hm, m1, m2, hp.1, hp.2, ?_⟩
  simp only [hasB, hm, m1, m2, Bool.true_and]
  cases hL : (l == i0 && c == i1 && k == i2)
  · simp
  · simp only [Bool.true_and, decide_eq_false_iff_not, decide_eq_true_eq]
    omega

set_option maxHeartbeats 4000000 in
theorem icut_walk (l c k n m p r i0 i1 i2 i3 : Int) (hs : Spn l c k n m) (hp : In64 p) (hr : In64 r) (hi : Idn i0 i1 i2 i3) (w : World) :
    Calls Try.prog 8 #[.agg #[.int .u8 l, .int .u32 c, .int .u8 k, .int .i64 n, .int .i64 m], .int .i64 p, .int .i64 r, .agg #[.int .u8 i0, .int .u32 i1, .int .u8 i2, .int .i64 i3]] w fun e w' => e = .returned (.bool true) ∧ Below w.heap.size w w' := by
  have j0 : -9223372036854775808 ≤ i3 := hi.n64.1
  have j1 : i3 ≤ 9223372036854775807 := hi.n64.2
  have hE := eql_span
  clear hs hp hr hi
  go_enter Try.func8, Try.ntmps8
  go_wp2_with fail
  go_call alive_any _ as e w1 ⟨rfl, b1⟩
  have hb : Below w.heap.size w w1 := below_in (by go_grown) b1
  (have s0 : w1.cell? ⟨w.heap.size, 0, none⟩ = some (.int .u8 l) := (keep b1 (by simp [go_sem])); have s1 : w1.cell? ⟨w.heap.size, 1, none⟩ = some (.int .u32 c) := (keep b1 (by simp [go_sem])); have s2 : w1.cell? ⟨w.heap.size, 2, none⟩ = some (.int .u8 k) := (keep b1 (by simp [go_sem])); have s3 : w1.cell? ⟨w.heap.size, 3, none⟩ = some (.int .i64 n) := (keep b1 (by simp [go_sem])); have s4 : w1.cell? ⟨w.heap.size, 4, none⟩ = some (.int .i64 m) := (keep b1 (by simp [go_sem])))
  (have t0 : w1.cell? ⟨w.heap.size + 1, 0, none⟩ = some (.int .u8 i0) := (keep b1 (by simp [go_sem])); have t1 : w1.cell? ⟨w.heap.size + 1, 1, none⟩ = some (.int .u32 i1) := (keep b1 (by simp [go_sem])); have t2 : w1.cell? ⟨w.heap.size + 1, 2, none⟩ = some (.int .u8 i2) := (keep b1 (by simp [go_sem])); have t3 : w1.cell? ⟨w.heap.size + 1, 3, none⟩ = some (.int .i64 i3) := (keep b1 (by simp [go_sem])))
  clear b1
  cases hq : cutB l k n m p
  · have hj : cutE l k n m p ≠ 0 := by
      intro h
      unfold cutE at h
      unfold cutB at hq
      split at h
      · rename_i h1
        split at h
        · rename_i h2; rw [h1] at hq; simp at hq; omega
        · exact absurd h (by decide)
      · exact absurd h (by decide)
    obtain ⟨j, hj2⟩ : ∃ j, cutE l k n m p = j := ⟨_, rfl⟩
    rw [hj2] at hj
    have HX : Hid (cutB l k n m p = false ∧ cutE l k n m p = j ∧ pick false l = 0 ∧ pick false c = 0 ∧ pick false k = 0 ∧ pick false n = 0 ∧ pick false p = 0 ∧ pick false (n + p) = 0 ∧ pick false (m - p) = 0) := hid ⟨hq, hj2, rfl, rfl, rfl, rfl, rfl, rfl, rfl⟩
    have hj3 : (j != 0) = true := by simpa using hj
    have hz : sameS 0 0 0 0 0 0 0 0 0 0 = true := by decide
    clear hq hj hj2
    go_wp2_with fail
    refine (cut_of false j 0 0 0 0 0 0 0 l c k n m p HX _).mono ?_
    rintro e w2 ⟨rfl, b2⟩
    replace hb := below_in hb b2
    go_wp2
    go_ret
    exact ⟨rfl, (hb.alloc hb.size _).alloc (Nat.le_trans hb.size (by simp)) _⟩
  · obtain ⟨m0, m1, m2, p0, p1, key⟩ := cut_key (c := c) (i0 := i0) (i1 := i1) (i2 := i2) (i3 := i3) hq
    obtain ⟨r1, r2, r3, r4, r5⟩ := mayS_range m0
    obtain ⟨y, hy⟩ : ∃ y, n + p = y := ⟨_, rfl⟩
    obtain ⟨z, hz⟩ : ∃ z, m - p = z := ⟨_, rfl⟩
    have HX : Hid (cutB l k n m p = true ∧ cutE l k n m p = 0 ∧ pick true l = l ∧ pick true c = c ∧ pick true k = k ∧ pick true n = n ∧ pick true p = p ∧ pick true (n + p) = y ∧ pick true (m - p) = z) := hid ⟨hq, (cut_good m0 ⟨p0, p1⟩).2, rfl, rfl, rfl, rfl, rfl, hy, hz⟩
    rw [hy, hz] at m2 key
    have M0 := hid m0
    have HA : Hid (er (mayS l k n p) = 0) := hid (by rw [m1]; rfl)
    have HB : Hid (er (mayS l k y z) = 0) := hid (by rw [m2]; rfl)
    have hpz : p + z = m := by omega
    have m64 : m ≤ 9223372036854775807 := by omega
    have mm64 : -9223372036854775808 ≤ m := by omega
    have HY := hid hy
    have P0 := hid p0
    have P1 := hid p1
    have hall : ∃ (H A B : Bool) (vh va vb : Int), Hid (hasB l c k n m i0 i1 i2 i3 = H ∧ pick H (i3 - n) = vh) ∧ Hid (hasB l c k n p i0 i1 i2 i3 = A ∧ pick A (i3 - n) = va) ∧ Hid (hasB l c k y z i0 i1 i2 i3 = B ∧ pick B (i3 - y) = vb) ∧
        ((H = false ∧ A = false ∧ B = false) ∨ (H = true ∧ A = true ∧ B = false ∧ va = vh) ∨ (H = true ∧ A = false ∧ B = true ∧ vb + p = vh ∧ -9223372036854775808 ≤ vh ∧ vh ≤ 9223372036854775807)) := by
      refine ⟨_, _, _, _, _, _, hid ⟨rfl, rfl⟩, hid ⟨rfl, rfl⟩, hid ⟨rfl, rfl⟩, ?_⟩
      rcases key with ⟨e1, e2, e3⟩ | ⟨e1, e2, e3, e4, e5⟩ | ⟨e1, e2, e3, e4, e5⟩
      · exact .inl ⟨e1, e2, e3⟩
      · exact .inr (.inl ⟨e1, e2, e3, by rw [e1, e2]⟩)
      · refine .inr (.inr ⟨e1, e2, e3, ?_, ?_, ?_⟩) <;> simp only [e1, e3, pick_true] <;> omega
    obtain ⟨H, A, B, vh, va, vb, Hh, Ha, Hb, hcase⟩ := hall
    clear hq m0 m1 m2 key hy hz r1 r2 r3 r4 r5 p0 p1
    go_wp2_with fail
    refine (cut_of true 0 l c k n p y z l c k n m p HX _).mono ?_
    rintro e w2 ⟨rfl, b2⟩
    replace hb := below_in hb b2
    (replace s0 := keep b2 s0; replace s1 := keep b2 s1; replace s2 := keep b2 s2; replace s3 := keep b2 s3; replace s4 := keep b2 s4)
    (replace t0 := keep b2 t0; replace t1 := keep b2 t1; replace t2 := keep b2 t2; replace t3 := keep b2 t3)
    clear b2 HX
    go_wp2_with fail
    refine (checkSpan_of 0 l c k n p HA _).mono ?_
    rintro e w3 ⟨rfl, b3⟩
    (have u0 : w3.cell? ⟨w2.heap.size, 0, none⟩ = some (.int .u8 l) := (keep b3 (by simp [go_sem])); have u1 : w3.cell? ⟨w2.heap.size, 1, none⟩ = some (.int .u32 c) := (keep b3 (by simp [go_sem])); have u2 : w3.cell? ⟨w2.heap.size, 2, none⟩ = some (.int .u8 k) := (keep b3 (by simp [go_sem])); have u3 : w3.cell? ⟨w2.heap.size, 3, none⟩ = some (.int .i64 n) := (keep b3 (by simp [go_sem])); have u4 : w3.cell? ⟨w2.heap.size, 4, none⟩ = some (.int .i64 p) := (keep b3 (by simp [go_sem])))
    (have v0 : w3.cell? ⟨w2.heap.size + 1, 0, none⟩ = some (.int .u8 l) := (keep b3 (by simp [go_sem])); have v1 : w3.cell? ⟨w2.heap.size + 1, 1, none⟩ = some (.int .u32 c) := (keep b3 (by simp [go_sem])); have v2 : w3.cell? ⟨w2.heap.size + 1, 2, none⟩ = some (.int .u8 k) := (keep b3 (by simp [go_sem])); have v3 : w3.cell? ⟨w2.heap.size + 1, 3, none⟩ = some (.int .i64 y) := (keep b3 (by simp [go_sem])); have v4 : w3.cell? ⟨w2.heap.size + 1, 4, none⟩ = some (.int .i64 z) := (keep b3 (by simp [go_sem])))
    replace b3 := past_alloc2 b3
    replace hb := below_in hb b3
    (replace s0 := keep b3 s0; replace s1 := keep b3 s1; replace s2 := keep b3 s2; replace s3 := keep b3 s3; replace s4 := keep b3 s4)
    (replace t0 := keep b3 t0; replace t1 := keep b3 t1; replace t2 := keep b3 t2; replace t3 := keep b3 t3)
    clear b3 HA
    go_wp2_with fail
    refine (checkSpan_of 0 l c k y z HB _).mono ?_
    rintro e w4 ⟨rfl, b4⟩
    replace hb := below_in hb b4
    (replace s0 := keep b4 s0; replace s1 := keep b4 s1; replace s2 := keep b4 s2; replace s3 := keep b4 s3; replace s4 := keep b4 s4)
    (replace t0 := keep b4 t0; replace t1 := keep b4 t1; replace t2 := keep b4 t2; replace t3 := keep b4 t3)
    (replace u0 := keep b4 u0; replace u1 := keep b4 u1; replace u2 := keep b4 u2; replace u3 := keep b4 u3; replace u4 := keep b4 u4)
    (replace v0 := keep b4 v0; replace v1 := keep b4 v1; replace v2 := keep b4 v2; replace v3 := keep b4 v3; replace v4 := keep b4 v4)
    clear b4 HB
    go_wp2_with fail
    refine (has_of H vh l c k n m i0 i1 i2 i3 j0 j1 Hh _).mono ?_
    rintro e w5 ⟨rfl, b5⟩
    replace hb := below_in hb b5
    (replace s0 := keep b5 s0; replace s1 := keep b5 s1; replace s2 := keep b5 s2; replace s3 := keep b5 s3; replace s4 := keep b5 s4)
    (replace t0 := keep b5 t0; replace t1 := keep b5 t1; replace t2 := keep b5 t2; replace t3 := keep b5 t3)
    (replace u0 := keep b5 u0; replace u1 := keep b5 u1; replace u2 := keep b5 u2; replace u3 := keep b5 u3; replace u4 := keep b5 u4)
    (replace v0 := keep b5 v0; replace v1 := keep b5 v1; replace v2 := keep b5 v2; replace v3 := keep b5 v3; replace v4 := keep b5 v4)
    clear b5 Hh
    go_wp2_with fail
    refine (has_of A va l c k n p i0 i1 i2 i3 j0 j1 Ha _).mono ?_
    rintro e w6 ⟨rfl, b6⟩
    replace hb := below_in hb b6
    (replace s0 := keep b6 s0; replace s1 := keep b6 s1; replace s2 := keep b6 s2; replace s3 := keep b6 s3; replace s4 := keep b6 s4)
    (replace t0 := keep b6 t0; replace t1 := keep b6 t1; replace t2 := keep b6 t2; replace t3 := keep b6 t3)
    (replace v0 := keep b6 v0; replace v1 := keep b6 v1; replace v2 := keep b6 v2; replace v3 := keep b6 v3; replace v4 := keep b6 v4)
    clear b6 Ha u0 u1 u2 u3 u4
    go_wp2_with fail
    refine (has_of B vb l c k y z i0 i1 i2 i3 j0 j1 Hb _).mono ?_
    rintro e w7 ⟨rfl, b7⟩
    replace hb := below_in hb b7
    (replace s0 := keep b7 s0; replace s1 := keep b7 s1; replace s2 := keep b7 s2; replace s3 := keep b7 s3; replace s4 := keep b7 s4)
    clear b7 Hb v0 v1 v2 v3 v4 t0 t1 t2 t3
    have tail : (∃ b, decide (r < 0) = b ∧ (b = true ∨ b = false ∧ decide (m ≤ r) = true) ∧ Hid (atB l k n m r = false ∧ atE l k n m r = 2 ∧ pick false l = 0 ∧ pick false c = 0 ∧ pick false k = 0 ∧ pick false (n + r) = 0)) ∨
        (∃ x, (-9223372036854775808 ≤ x ∧ x ≤ 9223372036854775807) ∧ Hid (atB l k n m r = true ∧ atE l k n m r = 0 ∧ pick true l = l ∧ pick true c = c ∧ pick true k = k ∧ pick true (n + r) = x) ∧ Hid (hasB l c k n m l c k x = true ∧ pick true (x - n) = r) ∧ ((r == 0) = true ∨ (r == 0) = false ∧ Hid (lessB l c k n l c k x = true))) := by
      have hm := M0.out
      obtain ⟨r1, r2, r3, r4, r5⟩ := mayS_range hm
      by_cases hr : 0 ≤ r ∧ r < m
      · refine .inr ⟨n + r, by omega, hid ⟨(at_good hm hr).1, (at_good hm hr).2, rfl, rfl, rfl, rfl⟩, hid ⟨?_, by simp only [pick_true]; omega⟩, ?_⟩
        · rw [hasB, hm]
          simp; omega
        · by_cases h0 : r = 0
          · exact .inl (by simp [h0])
          · exact .inr ⟨by simp [h0], hid (by simp only [lessB, decide_eq_true_eq]; omega)⟩
      · refine .inl ⟨_, rfl, ?_, hid ⟨(at_arg hm (by omega)).1, (at_arg hm (by omega)).2, rfl, rfl, rfl, rfl⟩⟩
        by_cases h0 : r < 0
        · exact .inl (by simpa using h0)
        · exact .inr ⟨by simpa using h0, by simp; omega⟩
    clear M0 HY P0 P1
    rcases hcase with ⟨rfl, rfl, rfl⟩ | ⟨rfl, rfl, rfl, rfl⟩ | ⟨rfl, rfl, rfl, h1, h2, h3⟩
    all_goals
      rcases tail with ⟨b, h4, h5 | ⟨h5, h6⟩, HT⟩ | ⟨x, ⟨x0, x1⟩, HT, HS, h4 | ⟨h4, HL⟩⟩
      · subst h5
        go_wp2_with fail
        refine (at_of false 2 0 0 0 0 l c k n m r HT _).mono ?_
        rintro e w8 ⟨rfl, b8⟩
        replace hb := below_in hb b8
        (replace s0 := keep b8 s0; replace s1 := keep b8 s1; replace s2 := keep b8 s2; replace s3 := keep b8 s3; replace s4 := keep b8 s4)
        (replace s0 := fun o => keepa s0 o; replace s1 := fun o => keepa s1 o; replace s2 := fun o => keepa s2 o; replace s3 := fun o => keepa s3 o; replace s4 := fun o => keepa s4 o)
        go_wp2
        go_ret
        exact ⟨rfl, hb.alloc hb.size _⟩
      · subst h5
        go_wp2_with fail
        refine (at_of false 2 0 0 0 0 l c k n m r HT _).mono ?_
        rintro e w8 ⟨rfl, b8⟩
        replace hb := below_in hb b8
        (replace s0 := keep b8 s0; replace s1 := keep b8 s1; replace s2 := keep b8 s2; replace s3 := keep b8 s3; replace s4 := keep b8 s4)
        (replace s0 := fun o => keepa s0 o; replace s1 := fun o => keepa s1 o; replace s2 := fun o => keepa s2 o; replace s3 := fun o => keepa s3 o; replace s4 := fun o => keepa s4 o)
        go_wp2
        go_ret
        exact ⟨rfl, hb.alloc hb.size _⟩
      · go_wp2_with fail
        refine (at_of true 0 l c k x l c k n m r HT _).mono ?_
        rintro e w8 ⟨rfl, b8⟩
        replace hb := below_in hb b8
        (replace s0 := keep b8 s0; replace s1 := keep b8 s1; replace s2 := keep b8 s2; replace s3 := keep b8 s3; replace s4 := keep b8 s4)
        (replace s0 := fun o => keepa s0 o; replace s1 := fun o => keepa s1 o; replace s2 := fun o => keepa s2 o; replace s3 := fun o => keepa s3 o; replace s4 := fun o => keepa s4 o)
        clear b8
        go_wp2_with fail
        refine (has_of true r l c k n m l c k x x0 x1 HS _).mono ?_
        rintro e w9 ⟨rfl, b9⟩
        go_wp2
        go_ret
        exact ⟨rfl, below_in (hb.alloc hb.size _) b9⟩
      · go_wp2_with fail
        refine (at_of true 0 l c k x l c k n m r HT _).mono ?_
        rintro e w8 ⟨rfl, b8⟩
        replace hb := below_in hb b8
        (replace s0 := keep b8 s0; replace s1 := keep b8 s1; replace s2 := keep b8 s2; replace s3 := keep b8 s3; replace s4 := keep b8 s4)
        (replace s0 := fun o => keepa s0 o; replace s1 := fun o => keepa s1 o; replace s2 := fun o => keepa s2 o; replace s3 := fun o => keepa s3 o; replace s4 := fun o => keepa s4 o)
        clear b8
        go_wp2_with fail
        refine (has_of true r l c k n m l c k x x0 x1 HS _).mono ?_
        rintro e w9 ⟨rfl, b9⟩
        (have t0 : w9.cell? ⟨w8.heap.size, 0, none⟩ = some (.int .u8 l) := (keep b9 (by simp [go_sem])); have t1 : w9.cell? ⟨w8.heap.size, 1, none⟩ = some (.int .u32 c) := (keep b9 (by simp [go_sem])); have t2 : w9.cell? ⟨w8.heap.size, 2, none⟩ = some (.int .u8 k) := (keep b9 (by simp [go_sem])); have t3 : w9.cell? ⟨w8.heap.size, 3, none⟩ = some (.int .i64 x) := (keep b9 (by simp [go_sem])))
        have s5 := keep b9 (s0 _)
        have s6 := keep b9 (s1 _)
        have s7 := keep b9 (s2 _)
        have s8 := keep b9 (s3 _)
        have s9 := keep b9 (s4 _)
        replace hb := below_in (hb.alloc hb.size _) b9
        clear b9 s0 s1 s2 s3 s4
        go_wp2_with fail
        refine (less_of true l c k n l c k x _ HL.out).mono ?_
        rintro e w10 ⟨rfl, b10⟩
        go_wp2
        go_ret
        exact ⟨rfl, below_in hb b10⟩


set_option maxRecDepth 100000 in
theorem icut_lifted (os : Os) (started : os.Started) (H : Type) (enc : TypeId × Value → H) :
    ReturnsInHanded {} Try.checked os 8 .any (Rows.idsCutSpec.pre6 enc Try.prog Try.f8 Rows.idsCutRow.domain false) (Rows.idsCutSpec.post enc Try.prog Try.f8 false true false false) := by
  refine returnsInHanded_of_change (C := Try.checked) own started (by kernel_rfl) Try.func8
    (ChangeSpec.witness6 (enc := enc) (C := Try.checked) false ⟨#[], #[.agg #[.int .u8 0, .int .u32 0, .int .u8 0, .int .i64 0, .int .i64 0], .int .i64 0, .int .i64 0, .agg #[.int .u8 0, .int .u32 0, .int .u8 0, .int .i64 0]], []⟩ 8 (by kernel_rfl) (by kernel_rfl) (by kernel_rfl) (by kernel_rfl)) ?_
  intro W base args ds gs before hval0 hW _ _
  have hval : ∀ (j : Nat) t v, Try.f8.params[j]? = some t → args[j]? = some v → Value.okWide Try.prog W .any base t v := hval0
  have hW' := hW
  obtain ⟨p, q, hA0, hV, rfl, _, _⟩ := hW
  have hA : DataW.TrodAll enc Try.prog W 0 (fun _ => true) true Try.f8.params.toList args.toList ds p := hA0
  rw [Try.params8] at hA hval
  obtain ⟨v0, v1, v2, v3, d0, d1, d2, d3, p0, p1, p2, p3, rfl, rfl, rfl, h0, h1, h2, h3⟩ := trodAll_four hA
  obtain ⟨rfl, rfl⟩ := trodVars_none hV
  obtain ⟨l, c, k, n, m, rfl, hs⟩ := open_span (hval 0 _ v0 rfl rfl) h0
  obtain ⟨p, rfl, hp⟩ := open_i64 (hval 1 _ v1 rfl rfl) h1
  obtain ⟨r, rfl, hr0⟩ := open_i64 (hval 2 _ v2 rfl rfl) h2
  obtain ⟨i0, i1, i2, i3, rfl, hi⟩ := open_id (hval 3 _ v3 rfl rfl) h3
  refine (icut_walk l c k n m p r i0 i1 i2 i3 hs hp hr0 hi W).mono fun e W' ⟨he, hg⟩ => ?_
  subst he
  exact ⟨_, rfl, law_post laidOut (by kernel_rfl) rfl Try.underlying4 rfl rfl hW' hg⟩

theorem icut_holds : Rows.IdsCutSaid :=
  OpenClaim.holds_of_wide 8 Try.f8 rfl rfl rfl rfl rfl rfl rfl ⟨rfl, rfl, rfl, rfl, rfl⟩ rfl rfl rfl rfl rfl (by kernel_rfl) Try.func8 (by kernel_rfl)
    (of_decide_eq_true (by kernel_rfl)) (by unfold Func.isWrapper; rw [if_neg (of_decide_eq_false (by kernel_rfl))]; exact ⟨rfl, rfl⟩)
    (fun os started H enc _ => icut_lifted os started H enc)
#print axioms icut_holds
end Go.Proofs.Ytpmpngdejikhhaa
