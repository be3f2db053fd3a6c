/-
  The reference's GetHandle (stage 5).
-/
import Derived.Test.YtndmblhkmgnpcaaGreatIQ
import Derived.Deep.RegionHeld
namespace Go.Proofs.YtndmblhkmgnpcaaGreat
open Go.RowKit
set_option linter.unusedVariables false
set_option linter.unusedSimpArgs false

set_option maxRecDepth 100000 in
set_option maxHeartbeats 800000 in
theorem hnumber_of (z : Int) (A : Option Addr) (n c : Nat) (l : List UInt8) (hn : Hid (l.length = n)) (hz : Hid ((vl l : Int) = z)) (h7 : n ≤ 7) (w : World) (hr : Rd w A c l) :
    Calls Tryz.prog 100 #[.slice A n c] w fun e w' => e = .returned (.int .i64 z) ∧ w = w' := by
  have hc2 : (c : Int) ≤ 9223372036854775807 := by have := hr.cap; omega
  have hc1 : (n : Int) ≤ c := by have := hr.len; have := hn.out; omega
  have HR := hid hr
  clear hr
  go_enter Tryz.func100, Tryz.ntmps100
  go_wp2
  go_loop [3, 4] (fun v i => ∃ (j : Nat) (y : Int), j ≤ n ∧ i = .int .i64 (j : Int) ∧ v = .int .i64 y ∧ Hid ((vl (l.take j) : Int) = y)) (fun _ i => n - (intOf i).toNat)
  case atStart => exact ⟨0, 0, by omega, rfl, rfl, hid rfl⟩
  case round =>
    obtain ⟨j, y, hj, rfl, rfl, hy⟩ := hrel
    by_cases hlt : j < n
    · have hl := hn.out
      obtain ⟨b, o, rfl, hcell⟩ := HR.out.at_ (by omega)
      have h1 := hcell j (by omega)
      have hs := vl_take (l := l) (j := j) (by omega)
      have hsm := vl_small l (show j ≤ 6 by omega)
      generalize l[j]'(by omega) = d at h1 hs
      have hd := d.toNat_lt
      have hd2 : (d.toNat : Int) ≤ 255 := by omega
      have y0 : 0 ≤ y := by rw [← hy.out]; omega
      have y1 : y < 281474976710656 := by have := hy.out; simp at hsm; omega
      have HS := hid (show ((vl (l.take (j + 1)) : Nat) : Int) = 256 * y + d.toNat by rw [hs]; have := hy.out; omega)
      have hlt2 : (j : Int) < (n : Int) := by omega
      clear hs hsm hd hcell hl
      go_wp2
      go_round
      case rel => exact ⟨j + 1, _, by omega, by go_num, rfl, HS⟩
      case measure => simp [intOf]; omega
    · have ej : l.take j = l := List.take_of_length_le (by have := hn.out; omega)
      have hlt2 : ¬ (j : Int) < (n : Int) := by omega
      have HE := hid ej
      clear ej
      go_wp2
      go_ret
      exact ⟨ret_int (by rw [← hz.out, ← hy.out, HE.out]), rfl⟩

set_option maxRecDepth 100000 in
set_option maxHeartbeats 1600000 in
theorem rGetHandle_of (q : Bool) (x0 x1 x5 : Int) (A : Option Addr) (n c : Nat) (l : List UInt8) (hn : Hid (l.length = n)) (hx : Hid (okH l = q ∧ pick q (gL l) = x0 ∧ pick q (gC l) = x1 ∧ pick q (gK l) = x5)) (w : World) (hr : Rd w A c l) :
    Calls Tryz.prog 71 #[.slice A n c] w fun e w' => e = .returned (.tuple #[.agg #[.int .u8 x0, .int .u32 x1, .int .u8 x5], .int .i64 (er q)]) ∧ Below w.heap.size w w' := by
  by_cases h6 : n = 6
  · obtain ⟨y0, y1, y5, hy⟩ : ∃ y0 y1 y5, gL l = y0 ∧ gC l = y1 ∧ gK l = y5 := ⟨_, _, _, rfl, rfl, rfl⟩
    have hq : mayH y0 y5 = q := by
      have := hx.out.1
      rw [okH, hn.out, h6, hy.1, hy.2.2] at this
      simpa using this
    have HX : Hid (pick q y0 = x0 ∧ pick q y1 = x1 ∧ pick q y5 = x5) := hid (by
      have := hx.out.2
      rwa [hy.1, hy.2.1, hy.2.2] at this)
    subst h6
    have hc2 : (c : Int) ≤ 9223372036854775807 := by have := hr.cap; omega
    have hc1 : (6 : Int) ≤ c := by have := hr.len; have := hn.out; omega
    have hl := hn.out
    obtain ⟨b, o, rfl, hcell⟩ := hr.at_ (by omega)
    have e0 : w.cell? ⟨b, o, none⟩ = some (.int .u8 y0) := by
      have := hcell 0 (by omega)
      rw [Nat.add_zero] at this
      rw [this, ← hy.1, gL, List.getD_eq_getElem?_getD, List.getElem?_eq_getElem (by omega)]
      rfl
    have e5 : w.cell? ⟨b, o + 5, none⟩ = some (.int .u8 y5) := by
      rw [hcell 5 (by omega), ← hy.2.2, gK, List.getD_eq_getElem?_getD, List.getElem?_eq_getElem (by omega)]
      rfl
    have HT := hid (show ((l.drop 1).take 4).length = 4 by rw [List.length_take, List.length_drop]; omega)
    have hr4 := (hr.drop 1 (by omega)).take 4
    have x10 : 0 ≤ y1 := by have := gC_range l; have := hy.2.1; omega
    have x11 : y1 < 4294967296 := by have := gC_range l; have := hy.2.1; omega
    have HX1 : Hid ((vl ((l.drop 1).take 4) : Int) = y1) := hid hy.2.1
    have hw1 : IntKind.u32.wrap y1 = y1 := by rw [IntKind.wrap_u32]; omega
    have HQ := hid hq
    clear hcell hl hr hx hy hq
    go_enter Tryz.func71, Tryz.ntmps71
    go_wp2_with fail
    generalize hW : w.alloc _ = W
    have hbW : Below w.heap.size w W := by subst hW; go_grown
    (have t0 : W.cell? ⟨w.heap.size, 0, none⟩ = some (.int .u8 0) := ((by subst hW; simp [go_sem])); have t1 : W.cell? ⟨w.heap.size, 1, none⟩ = some (.int .u32 0) := ((by subst hW; simp [go_sem])); have t2 : W.cell? ⟨w.heap.size, 2, none⟩ = some (.int .u8 0) := ((by subst hW; simp [go_sem])))
    (have f0 : W.frozen? ⟨w.heap.size, 0, none⟩ = false := ((by subst hW; simp [go_sem])); have f1 : W.frozen? ⟨w.heap.size, 1, none⟩ = false := ((by subst hW; simp [go_sem])); have f2 : W.frozen? ⟨w.heap.size, 2, none⟩ = false := ((by subst hW; simp [go_sem])))
    have HR4 := hid (show Rd W _ _ _ by subst hW; exact hr4.alloc _)
    replace e0 : ∀ w', Below W.heap.size W w' → w'.cell? ⟨b, o, none⟩ = some (.int .u8 y0) := fun w' h => keep h (by subst hW; exact keepa e0 _)
    replace e5 : ∀ w', Below W.heap.size W w' → w'.cell? ⟨b, o + 5, none⟩ = some (.int .u8 y5) := fun w' h => keep h (by subst hW; exact keepa e5 _)
    clear hW hr4
    have S0 : Below W.heap.size W W.drew := (Below.refl _ _).drew
    have S1 : ∀ o, Below W.heap.size W (W.alloc o).drew := fun o => ((Below.refl _ W).alloc (Nat.le_refl _) o).drew
    go_region_held (fun w' => Below W.heap.size W w') (with_reducible (first | assumption | exact S0 | exact S1 _)) ((go_at_call 100; refine (hnumber_of y1 _ 4 _ _ HT HX1 (by omega) _ (HR4.out.keep (by assumption))).mono ?_; rintro e w2 ⟨rfl, rfl⟩))
    all_goals
      clear e0 e5 HR4 HT HX1 S0
      generalize hV : (W.alloc _).drew = V
      have bV : Below W.heap.size W V := by subst hV; exact S1 _
      have hb := below_in hbW bV
      (have s0 : V.cell? ⟨W.heap.size, 0, none⟩ = some (.int .u8 y0) := ((by subst hV; simp [go_sem])); have s1 : V.cell? ⟨W.heap.size, 1, none⟩ = some (.int .u32 y1) := ((by subst hV; simp [go_sem])); have s2 : V.cell? ⟨W.heap.size, 2, none⟩ = some (.int .u8 y5) := ((by subst hV; simp [go_sem])))
      (replace f0 := keepz bV t0 f0; replace f1 := keepz bV t1 f1; replace f2 := keepz bV t2 f2)
      (replace t0 := keep bV t0; replace t1 := keep bV t1; replace t2 := keep bV t2)
      clear hV bV S1
      cases q
      · obtain ⟨rfl, rfl, rfl⟩ := HX.out
        go_wp2_with fail
        refine (mayHandle_any y0 y1 y5 _).mono ?_
        rw [HQ.out]
        rintro e w3 ⟨rfl, b3⟩
        replace hb := below_in hb b3
        (replace f0 := keepz b3 t0 f0; replace f1 := keepz b3 t1 f1; replace f2 := keepz b3 t2 f2)
        (replace t0 := keep b3 t0; replace t1 := keep b3 t1; replace t2 := keep b3 t2)
        clear b3 s0 s1 s2
        go_wp2
        exact bodyPost_ret (v := .tuple #[.agg #[.int .u8 0, .int .u32 0, .int .u8 0], .int .i64 (er false)]) (by simp [results, Tryz.results71, go_sem, er, t0, t1, t2]) rfl ⟨rfl, set3 hb (Nat.le_refl _) _ _ _⟩
      · obtain ⟨rfl, rfl, rfl⟩ := HX.out
        go_wp2_with fail
        refine (mayHandle_any y0 y1 y5 _).mono ?_
        rw [HQ.out]
        rintro e w3 ⟨rfl, b3⟩
        replace hb := below_in hb b3
        (replace f0 := keepz b3 t0 f0; replace f1 := keepz b3 t1 f1; replace f2 := keepz b3 t2 f2)
        (replace t0 := keep b3 t0; replace t1 := keep b3 t1; replace t2 := keep b3 t2)
        (replace s0 := keep b3 s0; replace s1 := keep b3 s1; replace s2 := keep b3 s2)
        clear b3
        go_wp2
        exact bodyPost_ret (v := .tuple #[.agg #[.int .u8 y0, .int .u32 y1, .int .u8 y5], .int .i64 (er true)]) (by simp [results, Tryz.results71, go_sem, er, t0, t1, t2]) rfl ⟨rfl, set3 hb (Nat.le_refl _) _ _ _⟩
  · have hq : q = false := by
      have := hx.out.1
      rw [okH, hn.out] at this
      simpa [h6] using this.symm
    subst hq
    obtain ⟨_, rfl, rfl, rfl⟩ := hx.out
    have h6' : ((n : Int) != 6) = true := by simp; omega
    clear h6 hx
    go_enter Tryz.func71, Tryz.ntmps71
    go_wp2
    go_returns
    exact ⟨rfl, by go_grown⟩

end Go.Proofs.YtndmblhkmgnpcaaGreat
