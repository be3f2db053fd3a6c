/-
  The contract of the reference's Get.
-/
import Derived.Test.YtpmpngdejikhhaaIdV
namespace Go.Proofs.Ytpmpngdejikhhaa
open Go.RowKit
set_option linter.unusedVariables false
set_option linter.unusedSimpArgs false

set_option maxRecDepth 100000 in
set_option maxHeartbeats 1600000 in
theorem rGet_id (q : Bool) (x0 x1 x5 x6 : Int) (A : Option Addr) (n c : Nat) (l : List UInt8) (hn : Hid (l.length = n)) (hx : Hid (okI l = q ∧ pick q (gL l) = x0 ∧ pick q (gC l) = x1 ∧ pick q (gK l) = x5 ∧ pick q (gN l) = x6)) (w : World) (hr : Rd w A c l) :
    Calls Try.prog 30 #[.slice A n c] w fun e w' => e = .returned (.tuple #[.agg #[.int .u8 x0, .int .u32 x1, .int .u8 x5, .int .i64 x6], .int .i64 (er q)]) ∧ Below w.heap.size w w' := by
  by_cases h6 : n = 13
  · subst h6
    have hc2 : (c : Int) ≤ 9223372036854775807 := by have := hr.cap; omega
    have hc1 : (13 : Int) ≤ c := by have := hr.len; have := hn.out; omega
    have hc6 : ¬ c = 6 := by omega
    obtain ⟨t0, t1, t5, t6⟩ := g_take hn.out
    obtain ⟨b, o, rfl, hcell⟩ := hr.at_ (by have := hn.out; omega)
    obtain ⟨p, hp⟩ : ∃ p, okH (l.take 6) = p := ⟨_, rfl⟩
    obtain ⟨y0, y1, y5, y6, hy⟩ : ∃ y0 y1 y5 y6, pick p (gL l) = y0 ∧ pick p (gC l) = y1 ∧ pick p (gK l) = y5 ∧ gN l = y6 := ⟨_, _, _, _, rfl, rfl, rfl, rfl⟩
    have HP : Hid (okH (l.take 6) = p ∧ pick p (gL (l.take 6)) = y0 ∧ pick p (gC (l.take 6)) = y1 ∧ pick p (gK (l.take 6)) = y5) := hid ⟨hp, by rw [t0]; exact hy.1, by rw [t1]; exact hy.2.1, by rw [t5]; exact hy.2.2.1⟩
    have HL7 := hid (show (l.drop 6).length = 7 by rw [List.length_drop, hn.out])
    have HV7 : Hid ((vl (l.drop 6) : Int) = y6) := hid hy.2.2.2
    have HT6 := hid t6
    have hr6 := hr.take 6
    have hr7 := hr.drop 6 (by have := hn.out; omega)
    have hpH : mayH (gL l) (gK l) = p := by rw [okH, t6, t0, t5] at hp; simpa using hp
    have key : (p = false ∧ q = false ∧ (er p != 0) = true) ∨ (p = true ∧ (er p != 0) = false ∧ Hid (mayI y0 y5 y6 = q) ∧ Hid (pick q y0 = x0 ∧ pick q y1 = x1 ∧ pick q y5 = x5 ∧ pick q y6 = x6)) := by
      have e1 := hx.out.1
      rw [okI, hn.out] at e1
      cases p
      · refine .inl ⟨rfl, ?_, rfl⟩
        rw [← e1, mayI, hpH]
        rfl
      · refine .inr ⟨rfl, rfl, hid ?_, hid ?_⟩
        · rw [← hy.1, ← hy.2.2.1, ← hy.2.2.2, ← e1]
          rfl
        · have := hx.out.2
          rw [← hy.1, ← hy.2.1, ← hy.2.2.1, ← hy.2.2.2]
          exact this
    clear hcell hr t0 t1 t5 t6 hp hy hpH
    have S0 : ∀ V : World, Below V.heap.size V V.drew := fun V => (Below.refl _ _).drew
    have S1 : ∀ (V : World) o, Below V.heap.size V (V.alloc o).drew := fun V o => ((Below.refl _ V).alloc (Nat.le_refl _) o).drew
    go_enter Try.func30, Try.ntmps30
    go_wp2_with fail
    refine (rGetHandle_of p y0 y1 y5 _ 6 c (l.take 6) HT6 HP _ (hr6.alloc _)).mono ?_
    rintro e w1 ⟨rfl, b1⟩
    have hb : Below w.heap.size w w1 := below_in (by go_grown) b1
    (have t0 : w1.cell? ⟨w.heap.size, 0, none⟩ = some (.int .u8 0) := (keep b1 (by simp)); have t1 : w1.cell? ⟨w.heap.size, 1, none⟩ = some (.int .u32 0) := (keep b1 (by simp)); have t2 : w1.cell? ⟨w.heap.size, 2, none⟩ = some (.int .u8 0) := (keep b1 (by simp)); have t3 : w1.cell? ⟨w.heap.size, 3, none⟩ = some (.int .i64 0) := (keep b1 (by simp)))
    (have f0 : w1.frozen? ⟨w.heap.size, 0, none⟩ = false := (keepz b1 (v := .int .u8 0) (by simp) (by simp [go_sem])); have f1 : w1.frozen? ⟨w.heap.size, 1, none⟩ = false := (keepz b1 (v := .int .u32 0) (by simp) (by simp [go_sem])); have f2 : w1.frozen? ⟨w.heap.size, 2, none⟩ = false := (keepz b1 (v := .int .u8 0) (by simp) (by simp [go_sem])); have f3 : w1.frozen? ⟨w.heap.size, 3, none⟩ = false := (keepz b1 (v := .int .i64 0) (by simp) (by simp [go_sem])))
    replace hr7 := (hr7.alloc _).keep b1
    clear b1 hr6
    go_wp2_with fail
    generalize hW : w1.alloc _ = W
    have bW : Below w1.heap.size w1 W := by subst hW; exact (Below.refl _ _).alloc (Nat.le_refl _) _
    (have s0 : W.cell? ⟨w1.heap.size, 0, none⟩ = some (.int .u8 y0) := ((by subst hW; simp [go_sem])); have s1 : W.cell? ⟨w1.heap.size, 1, none⟩ = some (.int .u32 y1) := ((by subst hW; simp [go_sem])); have s2 : W.cell? ⟨w1.heap.size, 2, none⟩ = some (.int .u8 y5) := ((by subst hW; simp [go_sem])))
    replace hb := below_in hb bW
    (replace f0 := keepz bW t0 f0; replace f1 := keepz bW t1 f1; replace f2 := keepz bW t2 f2; replace f3 := keepz bW t3 f3)
    (replace t0 := keep bW t0; replace t1 := keep bW t1; replace t2 := keep bW t2; replace t3 := keep bW t3)
    have HR7 := hid (hr7.keep bW)
    clear hW bW hr7
    (have e0 := fun w' (h : Below W.heap.size W w') => keep h s0; have e1 := fun w' (h : Below W.heap.size W w') => keep h s1; have e2 := fun w' (h : Below W.heap.size W w') => keep h s2)
    have T0 := S0 W
    have T1 := S1 W
    clear S0 S1
    go_region_held (fun w' => Below W.heap.size W w') (with_reducible (first | assumption | exact T0 | exact T1 _)) ((go_at_call 47; refine (number_of y6 _ 7 _ _ HL7 HV7 (by omega) _ (HR7.out.keep (by assumption))).mono ?_; rintro e w2 ⟨rfl, rfl⟩))
    all_goals
      clear e0 e1 e2 HR7 HL7 HV7 T0 s0 s1 s2
      generalize hV : (W.alloc _).drew = V
      have bV : Below W.heap.size W V := by subst hV; exact T1 _
      replace hb := below_in hb bV
      (have s0 : V.cell? ⟨W.heap.size, 0, none⟩ = some (.int .u8 y0) := ((by subst hV; simp [go_sem])); have s1 : V.cell? ⟨W.heap.size, 1, none⟩ = some (.int .u32 y1) := ((by subst hV; simp [go_sem])); have s2 : V.cell? ⟨W.heap.size, 2, none⟩ = some (.int .u8 y5) := ((by subst hV; simp [go_sem])); have s3 : V.cell? ⟨W.heap.size, 3, none⟩ = some (.int .i64 y6) := ((by subst hV; simp [go_sem])))
      (replace f0 := keepz bV t0 f0; replace f1 := keepz bV t1 f1; replace f2 := keepz bV t2 f2; replace f3 := keepz bV t3 f3)
      (replace t0 := keep bV t0; replace t1 := keep bV t1; replace t2 := keep bV t2; replace t3 := keep bV t3)
      clear hV bV T1
      rcases key with ⟨rfl, rfl, g1⟩ | ⟨rfl, g1, HQ, HX⟩
      · obtain ⟨_, rfl, rfl, rfl, rfl⟩ := hx.out
        clear s0 s1 s2 s3
        go_wp2
        exact bodyPost_ret (v := .tuple #[.agg #[.int .u8 0, .int .u32 0, .int .u8 0, .int .i64 0], .int .i64 (er false)]) (by simp [results, Try.results30, go_sem, er, t0, t1, t2, t3]) rfl ⟨rfl, set4 hb (Nat.le_refl _) _ _ _ _⟩
      · clear hx
        cases q
        · obtain ⟨rfl, rfl, rfl, rfl⟩ := HX.out
          go_wp2_with fail
          refine (mayId_any y0 y1 y5 y6 _).mono ?_
          rw [HQ.out]
          rintro e w3 ⟨rfl, b3⟩
          replace hb := below_in hb b3
          (replace f0 := keepz b3 t0 f0; replace f1 := keepz b3 t1 f1; replace f2 := keepz b3 t2 f2; replace f3 := keepz b3 t3 f3)
          (replace t0 := keep b3 t0; replace t1 := keep b3 t1; replace t2 := keep b3 t2; replace t3 := keep b3 t3)
          clear b3 s0 s1 s2 s3
          go_wp2
          exact bodyPost_ret (v := .tuple #[.agg #[.int .u8 0, .int .u32 0, .int .u8 0, .int .i64 0], .int .i64 (er false)]) (by simp [results, Try.results30, go_sem, er, t0, t1, t2, t3]) rfl ⟨rfl, set4 hb (Nat.le_refl _) _ _ _ _⟩
        · obtain ⟨rfl, rfl, rfl, rfl⟩ := HX.out
          go_wp2_with fail
          refine (mayId_any y0 y1 y5 y6 _).mono ?_
          rw [HQ.out]
          rintro e w3 ⟨rfl, b3⟩
          replace hb := below_in hb b3
          (replace f0 := keepz b3 t0 f0; replace f1 := keepz b3 t1 f1; replace f2 := keepz b3 t2 f2; replace f3 := keepz b3 t3 f3)
          (replace t0 := keep b3 t0; replace t1 := keep b3 t1; replace t2 := keep b3 t2; replace t3 := keep b3 t3)
          (replace s0 := keep b3 s0; replace s1 := keep b3 s1; replace s2 := keep b3 s2; replace s3 := keep b3 s3)
          clear b3
          go_wp2
          exact bodyPost_ret (v := .tuple #[.agg #[.int .u8 y0, .int .u32 y1, .int .u8 y5, .int .i64 y6], .int .i64 (er true)]) (by simp [results, Try.results30, go_sem, er, t0, t1, t2, t3]) rfl ⟨rfl, set4 hb (Nat.le_refl _) _ _ _ _⟩
  · have hq : q = false := by
      have := hx.out.1
      rw [okI, hn.out] at this
      simpa [h6] using this.symm
    subst hq
    obtain ⟨_, rfl, rfl, rfl, rfl⟩ := hx.out
    have h6' : ((n : Int) != 13) = true := by simp; omega
    clear h6 hx
    go_enter Try.func30, Try.ntmps30
    go_wp2
    go_returns
    exact ⟨rfl, by go_grown⟩
end Go.Proofs.Ytpmpngdejikhhaa
