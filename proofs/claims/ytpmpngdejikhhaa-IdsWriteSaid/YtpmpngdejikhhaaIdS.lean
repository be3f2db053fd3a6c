/-
  The contracts of At, Has and Cut.
-/
import Derived.Test.YtpmpngdejikhhaaIdL
import Derived.BigRegion
import Derived.Deep.RegionHeld
namespace Go.Proofs.Ytpmpngdejikhhaa
open Go.RowKit
set_option linter.unusedVariables false
set_option linter.unusedSimpArgs false

def pick (b : Bool) (x : Int) : Int := if b then x else 0
theorem pick_true (x : Int) : pick true x = x := rfl
theorem pick_false (x : Int) : pick false x = 0 := rfl
def atB (l k n m p : Int) : Bool := mayS l k n m && decide (0 ≤ p ∧ p < m)
def atE (l k n m p : Int) : Int := if mayS l k n m = true then (if 0 ≤ p ∧ p < m then 0 else 2) else 8
def cutB (l k n m p : Int) : Bool := mayS l k n m && decide (1 ≤ p ∧ p < m)
def cutE (l k n m p : Int) : Int := if mayS l k n m = true then (if 1 ≤ p ∧ p < m then 0 else 2) else 8
theorem mayS_range {l k n m : Int} (h : mayS l k n m = true) : 1 ≤ n ∧ n ≤ 1099511627776 ∧ 1 ≤ m ∧ m ≤ 64 ∧ n + m ≤ 1099511627777 := by
  simp [mayS, mayI] at h; omega

theorem at_bad {l k n m : Int} (p : Int) (h : mayS l k n m = false) : atB l k n m p = false ∧ atE l k n m p = 8 := by simp [atB, atE, h]
theorem at_arg {l k n m p : Int} (h : mayS l k n m = true) (hp : p < 0 ∨ m ≤ p) : atB l k n m p = false ∧ atE l k n m p = 2 := by
  rw [atB, atE, h, if_pos rfl, if_neg (by omega)]
  exact ⟨by simp; omega, rfl⟩
theorem at_good {l k n m p : Int} (h : mayS l k n m = true) (hp : 0 ≤ p ∧ p < m) : atB l k n m p = true ∧ atE l k n m p = 0 := by
  rw [atB, atE, h, if_pos rfl, if_pos hp]
  exact ⟨by simp; omega, rfl⟩
theorem cut_bad {l k n m : Int} (p : Int) (h : mayS l k n m = false) : cutB l k n m p = false ∧ cutE l k n m p = 8 := by simp [cutB, cutE, h]
theorem cut_arg {l k n m p : Int} (h : mayS l k n m = true) (hp : p < 1 ∨ m ≤ p) : cutB l k n m p = false ∧ cutE l k n m p = 2 := by
  rw [cutB, cutE, h, if_pos rfl, if_neg (by omega)]
  exact ⟨by simp; omega, rfl⟩
theorem cut_good {l k n m p : Int} (h : mayS l k n m = true) (hp : 1 ≤ p ∧ p < m) : cutB l k n m p = true ∧ cutE l k n m p = 0 := by
  rw [cutB, cutE, h, if_pos rfl, if_pos hp]
  exact ⟨by simp; omega, rfl⟩

set_option maxHeartbeats 1600000 in
theorem at_of (q : Bool) (j x0 x1 x2 x3 : Int) (l c k n m p : Int) (hx : Hid (atB l k n m p = q ∧ atE l k n m p = j ∧ pick q l = x0 ∧ pick q c = x1 ∧ pick q k = x2 ∧ pick q (n + p) = x3)) (w : World) :
    Calls Try.prog 12 #[.agg #[.int .u8 l, .int .u32 c, .int .u8 k, .int .i64 n, .int .i64 m], .int .i64 p] w fun e w' => e = .returned (.tuple #[.agg #[.int .u8 x0, .int .u32 x1, .int .u8 x2, .int .i64 x3], .int .i64 j]) ∧ Below w.heap.size w w' := by
  go_enter Try.func12, Try.ntmps12
  go_wp2_with fail
  refine (checkSpan_any l c k n m _).mono ?_
  rintro e w1 ⟨rfl, b1⟩
  have hb : Below w.heap.size w w1 := below_in (by go_grown) b1
  (have s0 : w1.cell? ⟨w.heap.size, 0, none⟩ = some (.int .u8 l) := (keep b1 (by simp)); have s1 : w1.cell? ⟨w.heap.size, 1, none⟩ = some (.int .u32 c) := (keep b1 (by simp)); have s2 : w1.cell? ⟨w.heap.size, 2, none⟩ = some (.int .u8 k) := (keep b1 (by simp)); have s3 : w1.cell? ⟨w.heap.size, 3, none⟩ = some (.int .i64 n) := (keep b1 (by simp)); have s4 : w1.cell? ⟨w.heap.size, 4, none⟩ = some (.int .i64 m) := (keep b1 (by simp)))
  (have t0 : w1.cell? ⟨w.heap.size + 1, 0, none⟩ = some (.int .u8 0) := (keep b1 (by simp)); have t1 : w1.cell? ⟨w.heap.size + 1, 1, none⟩ = some (.int .u32 0) := (keep b1 (by simp)); have t2 : w1.cell? ⟨w.heap.size + 1, 2, none⟩ = some (.int .u8 0) := (keep b1 (by simp)); have t3 : w1.cell? ⟨w.heap.size + 1, 3, none⟩ = some (.int .i64 0) := (keep b1 (by simp)))
  (have f0 : w1.frozen? ⟨w.heap.size + 1, 0, none⟩ = false := (keepz b1 (v := .int .u8 0) (by simp) (by simp [go_sem])); have f1 : w1.frozen? ⟨w.heap.size + 1, 1, none⟩ = false := (keepz b1 (v := .int .u32 0) (by simp) (by simp [go_sem])); have f2 : w1.frozen? ⟨w.heap.size + 1, 2, none⟩ = false := (keepz b1 (v := .int .u8 0) (by simp) (by simp [go_sem])); have f3 : w1.frozen? ⟨w.heap.size + 1, 3, none⟩ = false := (keepz b1 (v := .int .i64 0) (by simp) (by simp [go_sem])))
  clear b1
  cases hq : mayS l k n m
  · have hx1 := hx.out
    rw [(at_bad p hq).1, (at_bad p hq).2] at hx1
    obtain ⟨rfl, rfl, rfl, rfl, rfl, rfl⟩ := hx1
    have e8 : (er false != 0) = true := rfl
    have e8' : er false = 8 := rfl
    clear hx hq
    go_wp2
    exact bodyPost_ret (v := .tuple #[.agg #[.int .u8 0, .int .u32 0, .int .u8 0, .int .i64 0], .int .i64 8]) (by simp [results, Try.results12, go_sem, er, t0, t1, t2, t3]) rfl ⟨rfl, set4 hb (by omega) _ _ _ _⟩
  · obtain ⟨r1, r2, r3, r4, r5⟩ := mayS_range hq
    have e0 : (er true != 0) = false := rfl
    have e0' : er true = 0 := rfl
    by_cases hp0 : p < 0
    · have hx1 := hx.out
      rw [(at_arg hq (.inl hp0)).1, (at_arg hq (.inl hp0)).2] at hx1
      obtain ⟨rfl, rfl, rfl, rfl, rfl, rfl⟩ := hx1
      have hd : decide (p < 0) = true := by simp; omega
      clear hx hq
      go_wp2
      exact bodyPost_ret (v := .tuple #[.agg #[.int .u8 0, .int .u32 0, .int .u8 0, .int .i64 0], .int .i64 2]) (by simp [results, Try.results12, go_sem, t0, t1, t2, t3]) rfl ⟨rfl, set4 hb (by omega) _ _ _ _⟩
    · have hd : decide (p < 0) = false := by simp; omega
      by_cases hpm : m ≤ p
      · have hx1 := hx.out
        rw [(at_arg hq (.inr hpm)).1, (at_arg hq (.inr hpm)).2] at hx1
        obtain ⟨rfl, rfl, rfl, rfl, rfl, rfl⟩ := hx1
        have hd2 : decide (m ≤ p) = true := by simp; omega
        clear hx hq
        go_wp2
        exact bodyPost_ret (v := .tuple #[.agg #[.int .u8 0, .int .u32 0, .int .u8 0, .int .i64 0], .int .i64 2]) (by simp [results, Try.results12, go_sem, t0, t1, t2, t3]) rfl ⟨rfl, set4 hb (by omega) _ _ _ _⟩
      · have hx1 := hx.out
        rw [(at_good hq (p := p) (by omega)).1, (at_good hq (p := p) (by omega)).2] at hx1
        have hd2 : decide (m ≤ p) = false := by simp; omega
        have HX := hid hx1.2.2.2.2.2
        obtain ⟨rfl, rfl, rfl, rfl, rfl, _⟩ := hx1
        have B0 : -9223372036854775808 ≤ x3 := by have := HX.out; simp only [pick_true] at this; omega
        have B1 : x3 ≤ 9223372036854775807 := by have := HX.out; simp only [pick_true] at this; omega
        clear hx hq hp0 hpm
        go_wp2_with fail
        refine (behind_any l c k n p x3 _ HX.out B0 B1).mono ?_
        rintro e w2 ⟨rfl, b2⟩
        replace hb := below_in hb b2
        (replace f0 := keepz b2 t0 f0; replace f1 := keepz b2 t1 f1; replace f2 := keepz b2 t2 f2; replace f3 := keepz b2 t3 f3)
        (replace t0 := keep b2 t0; replace t1 := keep b2 t1; replace t2 := keep b2 t2; replace t3 := keep b2 t3)
        clear b2
        go_wp2
        exact bodyPost_ret (v := .tuple #[.agg #[.int .u8 l, .int .u32 c, .int .u8 k, .int .i64 x3], .int .i64 0]) (by simp [results, Try.results12, go_sem, t0, t1, t2, t3]) rfl ⟨rfl, set4 hb (by omega) _ _ _ _⟩

def hasB (l c k n m i0 i1 i2 i3 : Int) : Bool := mayS l k n m && (l == i0 && c == i1 && k == i2) && decide (n ≤ i3 ∧ i3 < n + m)

/-- The place at which it would stand, a difference that may run over. -/
theorem has_key {l c k n m i0 i1 i2 i3 d : Int} (hd : d = wrap64 (i3 - n)) (h0 : -9223372036854775808 ≤ i3) (h1 : i3 ≤ 9223372036854775807) :
    (atB l k n m d = false ∧ hasB l c k n m i0 i1 i2 i3 = false ∧ (atE l k n m d != 0) = true) ∨
    (atB l k n m d = true ∧ atE l k n m d = 0 ∧ n + d = i3 ∧ i3 - n = d ∧ hasB l c k n m i0 i1 i2 i3 = sameI l c k (n + d) i0 i1 i2 i3) := by
  cases hm : mayS l k n m
  · obtain ⟨e1, e2⟩ := at_bad (l := l) (k := k) (n := n) (m := m) d hm
    exact .inl ⟨e1, by simp [hasB, hm], by rw [e2]; rfl⟩
  · obtain ⟨r1, r2, r3, r4, r5⟩ := mayS_range hm
    have ed : (-9223372036854775808 ≤ i3 - n ∧ d = i3 - n) ∨ (i3 - n < -9223372036854775808 ∧ d = i3 - n + 18446744073709551616) := by
      rw [hd]; unfold wrap64; omega
    by_cases hp : 0 ≤ d ∧ d < m
    · obtain ⟨e1, e2⟩ := at_good (l := l) (k := k) (n := n) (m := m) hm hp
      have e3 : n + d = i3 := by omega
      refine .inr ⟨e1, e2, e3, by omega, ?_⟩
      rw [hasB, hm, sameI, e3, decide_eq_true (show n ≤ i3 ∧ i3 < n + m by omega), beq_self_eq_true]
      simp
    · obtain ⟨e1, e2⟩ := at_arg (l := l) (k := k) (n := n) (m := m) (p := d) hm (by omega)
      refine .inl ⟨e1, ?_, by rw [e2]; rfl⟩
      rw [hasB, hm, decide_eq_false (show ¬ (n ≤ i3 ∧ i3 < n + m) by omega), Bool.and_false]

set_option maxHeartbeats 1600000 in
theorem has_of (q : Bool) (v : Int) (l c k n m i0 i1 i2 i3 : Int) (h0 : -9223372036854775808 ≤ i3) (h1 : i3 ≤ 9223372036854775807) (hx : Hid (hasB l c k n m i0 i1 i2 i3 = q ∧ pick q (i3 - n) = v)) (w : World) :
    Calls Try.prog 10 #[.agg #[.int .u8 l, .int .u32 c, .int .u8 k, .int .i64 n, .int .i64 m], .agg #[.int .u8 i0, .int .u32 i1, .int .u8 i2, .int .i64 i3]] w fun e w' => e = .returned (.tuple #[.int .i64 v, .bool q]) ∧ Below w.heap.size w w' := by
  have hE := neq_id
  rcases has_key (l := l) (c := c) (k := k) (n := n) (m := m) (i0 := i0) (i1 := i1) (i2 := i2) (i3 := i3) rfl h0 h1 with ⟨g1, g2, g3⟩ | ⟨g1, g2, g3, g4, g5⟩
  · obtain ⟨j, hj⟩ : ∃ j, atE l k n m (wrap64 (i3 - n)) = j := ⟨_, rfl⟩
    rw [hj] at g3
    obtain ⟨e1, e2⟩ := hx.out
    rw [g2] at e1
    subst e1 e2
    have HA : Hid (atB l k n m (wrap64 (i3 - n)) = false ∧ atE l k n m (wrap64 (i3 - n)) = j ∧ pick false l = 0 ∧ pick false c = 0 ∧ pick false k = 0 ∧ pick false (n + wrap64 (i3 - n)) = 0) := hid ⟨g1, hj, rfl, rfl, rfl, rfl⟩
    clear hx g1 g2 hj h0 h1
    go_enter Try.func10, Try.ntmps10
    go_wp2_with fail
    refine (at_of false j 0 0 0 0 l c k n m _ HA _).mono ?_
    rintro e w1 ⟨rfl, b1⟩
    go_wp2
    go_ret2
    exact ⟨rfl, (below_in (by go_grown) b1).alloc (by have := b1.size; simp at this; omega) _⟩
  · have HA : Hid (atB l k n m (wrap64 (i3 - n)) = true ∧ atE l k n m (wrap64 (i3 - n)) = 0 ∧ pick true l = l ∧ pick true c = c ∧ pick true k = k ∧ pick true (n + wrap64 (i3 - n)) = i3) := hid ⟨g1, g2, rfl, rfl, rfl, g3⟩
    obtain ⟨e1, e2⟩ := hx.out
    rw [g5, g3] at e1
    have HV := hid e2
    have HG := hid g4
    clear hx g1 g2 h0 h1 g3 g5 e2 g4
    cases q
    · go_enter Try.func10, Try.ntmps10
      go_wp2_with fail
      refine (at_of true 0 l c k i3 l c k n m _ HA _).mono ?_
      rintro e w1 ⟨rfl, b1⟩
      have hb : Below w.heap.size w w1 := below_in (by go_grown) b1
      (have s0 : w1.cell? ⟨w.heap.size + 1, 0, none⟩ = some (.int .u8 i0) := (keep b1 (by simp)); have s1 : w1.cell? ⟨w.heap.size + 1, 1, none⟩ = some (.int .u32 i1) := (keep b1 (by simp)); have s2 : w1.cell? ⟨w.heap.size + 1, 2, none⟩ = some (.int .u8 i2) := (keep b1 (by simp)); have s3 : w1.cell? ⟨w.heap.size + 1, 3, none⟩ = some (.int .i64 i3) := (keep b1 (by simp)))
      (replace s0 := fun o => keepa s0 o; replace s1 := fun o => keepa s1 o; replace s2 := fun o => keepa s2 o; replace s3 := fun o => keepa s3 o)
      clear b1
      go_wp2
      go_ret2
      exact ⟨by rw [← HV.out]; rfl, hb.alloc hb.size _⟩
    · go_enter Try.func10, Try.ntmps10
      go_wp2_with fail
      refine (at_of true 0 l c k i3 l c k n m _ HA _).mono ?_
      rintro e w1 ⟨rfl, b1⟩
      have hb : Below w.heap.size w w1 := below_in (by go_grown) b1
      (have s0 : w1.cell? ⟨w.heap.size + 1, 0, none⟩ = some (.int .u8 i0) := (keep b1 (by simp)); have s1 : w1.cell? ⟨w.heap.size + 1, 1, none⟩ = some (.int .u32 i1) := (keep b1 (by simp)); have s2 : w1.cell? ⟨w.heap.size + 1, 2, none⟩ = some (.int .u8 i2) := (keep b1 (by simp)); have s3 : w1.cell? ⟨w.heap.size + 1, 3, none⟩ = some (.int .i64 i3) := (keep b1 (by simp)))
      (replace s0 := fun o => keepa s0 o; replace s1 := fun o => keepa s1 o; replace s2 := fun o => keepa s2 o; replace s3 := fun o => keepa s3 o)
      clear b1
      go_wp2
      go_ret2
      exact ⟨by rw [← HV.out]; show Ending.returned (.tuple #[.int .i64 (wrap64 (i3 - n)), .bool true]) = _; rw [← HG.out]; rfl, hb.alloc hb.size _⟩
end Go.Proofs.Ytpmpngdejikhhaa
