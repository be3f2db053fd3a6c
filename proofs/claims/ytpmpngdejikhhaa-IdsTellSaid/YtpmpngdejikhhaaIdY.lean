/-
  The contract of the reference's Has.
-/
import Derived.Test.YtpmpngdejikhhaaIdT
namespace Go.Proofs.Ytpmpngdejikhhaa
open Go.RowKit
set_option linter.unusedVariables false
set_option linter.unusedSimpArgs false

theorem has_found {l c k n m i0 i1 i2 i3 : Int} {j : Nat} (hm : mayS l k n m = true) (hj : (j : Int) < m) (h : sameI l c k (n + (j : Int)) i0 i1 i2 i3 = true) : hasB l c k n m i0 i1 i2 i3 = true ∧ i3 - n = j := by
  simp only [sameI, Bool.and_eq_true, beq_iff_eq] at h
  obtain ⟨⟨⟨rfl, rfl⟩, rfl⟩, rfl⟩ := h
  refine ⟨?_, by omega⟩
  simp only [hasB, hm, beq_self_eq_true, Bool.and_self, Bool.true_and, decide_eq_true_eq]
  omega
theorem has_none {l c k n m i0 i1 i2 i3 : Int} {M : Nat} (hM : (M : Int) = m) (h : ∀ t : Nat, t < M → sameI l c k (n + (t : Int)) i0 i1 i2 i3 = false) : hasB l c k n m i0 i1 i2 i3 = false := by
  cases hq : hasB l c k n m i0 i1 i2 i3
  · rfl
  · simp only [hasB, Bool.and_eq_true, beq_iff_eq, decide_eq_true_eq] at hq
    obtain ⟨⟨_, ⟨rfl, rfl⟩, rfl⟩, h1, h2⟩ := hq
    have := h (i3 - n).toNat (by omega)
    rw [show n + ((i3 - n).toNat : Int) = i3 by omega] at this
    simp [sameI] at this

set_option maxRecDepth 100000 in
set_option maxHeartbeats 1600000 in
theorem rHas_of (q : Bool) (v : Int) (l c k n m i0 i1 i2 i3 : Int) (hm0 : -9223372036854775808 ≤ m) (hx : Hid (hasB l c k n m i0 i1 i2 i3 = q ∧ pick q (i3 - n) = v)) (w : World) :
    Calls Try.prog 19 #[.agg #[.int .u8 l, .int .u32 c, .int .u8 k, .int .i64 n, .int .i64 m], .agg #[.int .u8 i0, .int .u32 i1, .int .u8 i2, .int .i64 i3]] w fun e w' => e = .returned (.tuple #[.int .i64 v, .bool q]) ∧ Below w.heap.size w w' := by
  have hE := eql_id
  go_enter Try.func19, Try.ntmps19
  go_wp2_with fail
  refine (maySpan_any l c k n m hm0 _).mono ?_
  rintro e w1 ⟨rfl, b1⟩
  have hb : Below w.heap.size w w1 := below_in (by go_grown) b1
  (have s0 : w1.cell? ⟨w.heap.size, 0, none⟩ = some (.int .u8 l) := (keep b1 (by simp)); have s1 : w1.cell? ⟨w.heap.size, 1, none⟩ = some (.int .u32 c) := (keep b1 (by simp)); have s2 : w1.cell? ⟨w.heap.size, 2, none⟩ = some (.int .u8 k) := (keep b1 (by simp)); have s3 : w1.cell? ⟨w.heap.size, 3, none⟩ = some (.int .i64 n) := (keep b1 (by simp)); have s4 : w1.cell? ⟨w.heap.size, 4, none⟩ = some (.int .i64 m) := (keep b1 (by simp)))
  (have t0 : w1.cell? ⟨w.heap.size + 1, 0, none⟩ = some (.int .u8 i0) := (keep b1 (by simp)); have t1 : w1.cell? ⟨w.heap.size + 1, 1, none⟩ = some (.int .u32 i1) := (keep b1 (by simp)); have t2 : w1.cell? ⟨w.heap.size + 1, 2, none⟩ = some (.int .u8 i2) := (keep b1 (by simp)); have t3 : w1.cell? ⟨w.heap.size + 1, 3, none⟩ = some (.int .i64 i3) := (keep b1 (by simp)))
  clear b1
  cases hq : mayS l k n m
  · have HQ := hid (show hasB l c k n m i0 i1 i2 i3 = false by rw [hasB, hq]; rfl)
    clear hq
    go_wp2
    go_ret2
    refine ⟨?_, hb⟩
    obtain ⟨rfl, rfl⟩ := hx.out
    rw [HQ.out]
    rfl
  · obtain ⟨r1, r2, r3, r4, r5⟩ := mayS_range hq
    obtain ⟨M, hM⟩ : ∃ M : Nat, (M : Int) = m := ⟨m.toNat, by omega⟩
    have HM := hid hM
    have HQ := hid hq
    have hM64 : M ≤ 64 := by omega
    clear hq hM
    go_wp2_with fail
    refine (all_of l c k n m M HM HQ.out _).mono ?_
    rintro e w2 ⟨g, cap, rfl, hgg, hr, b2⟩
    replace hb := below_in hb b2
    (replace t0 := keep b2 t0; replace t1 := keep b2 t1; replace t2 := keep b2 t2; replace t3 := keep b2 t3)
    have hc1 : (M : Int) ≤ (cap : Int) := by have := hr.1; omega
    have hc2 : (cap : Int) ≤ 9223372036854775807 := by have := hr.2.1; omega
    have HR := hid hr
    clear b2 s0 s1 s2 s3 s4 hr
    go_wp2
    go_loopw [7] (fun i wr => ∃ j : Nat, j ≤ M ∧ i = .int .i64 (j : Int) ∧ Hid (∀ t : Nat, t < j → sameI l c k (n + (t : Int)) i0 i1 i2 i3 = false) ∧ Below w2.heap.size w2 wr) (fun i _ => M - (intOf i).toNat)
    case atStart => exact ⟨0, by omega, rfl, hid (fun t ht => by omega), Below.refl _ _⟩
    case round =>
      obtain ⟨j, hj, rfl, hz, hbr⟩ := hrel
      by_cases hlt : j < M
      · have hlt2 : (j : Int) < (M : Int) := by omega
        obtain ⟨y0, y1, y2, y3⟩ := (HR.out.keep hbr).2.2 j hlt
        obtain ⟨x, hxx⟩ : ∃ x, n + (j : Int) = x := ⟨_, rfl⟩
        rw [hxx] at y3
        have HX := hid hxx
        (replace t0 := keep hbr t0; replace t1 := keep hbr t1; replace t2 := keep hbr t2; replace t3 := keep hbr t3)
        (have p0 := Past.all y0; have p1 := Past.all y1; have p2 := Past.all y2; have p3 := Past.all y3)
        (have u0 := Past.all t0; have u1 := Past.all t1; have u2 := Past.all t2; have u3 := Past.all t3)
        clear y0 y1 y2 y3 t0 t1 t2 t3 hxx
        cases hs : sameI l c k x i0 i1 i2 i3
        · have HS := hid hs
          go_wp2_with fail
          refine wp_region_past (by kernel_rfl) (by kernel_rfl) ?_
          repeat (go_big_quiet_step (fail))
          refine wpQuiet_nil ?_
          rintro w3 ⟨⟨_, hh⟩, rfl⟩
          go_wp2
          go_roundw
          case rel => exact ⟨j + 1, by omega, by go_num, hid (fun t ht => by
            by_cases e : t = j
            · subst e; rw [HX.out]; exact HS.out
            · exact hz.out t (by omega)), hbr.trans (hh.mono hbr.size)⟩
          case measure => simp [intOf]; omega
        · have HS := hid hs
          go_wp2_with fail
          refine wp_region_past (by kernel_rfl) (by kernel_rfl) ?_
          repeat (go_big_quiet_step (fail))
          refine wpQuiet_nil ?_
          rintro w3 ⟨⟨_, hh⟩, rfl⟩
          go_wp2
          go_ret2
          obtain ⟨f1, f2⟩ := has_found (i0 := i0) (i1 := i1) (i2 := i2) (i3 := i3) (c := c) HQ.out (j := j) (by have := HM.out; omega) (by rw [HX.out]; exact HS.out)
          refine ⟨?_, hb.trans ((hbr.trans (hh.mono hbr.size)).mono hb.size)⟩
          obtain ⟨rfl, rfl⟩ := hx.out
          rw [f1, pick_true, f2]
          rfl
      · have hlt2 : ¬ (j : Int) < (M : Int) := by omega
        obtain rfl : j = M := by omega
        go_wp2
        go_ret2
        refine ⟨?_, hb.trans (hbr.mono hb.size)⟩
        have f1 := has_none HM.out hz.out
        obtain ⟨rfl, rfl⟩ := hx.out
        rw [f1]
        rfl
end Go.Proofs.Ytpmpngdejikhhaa
