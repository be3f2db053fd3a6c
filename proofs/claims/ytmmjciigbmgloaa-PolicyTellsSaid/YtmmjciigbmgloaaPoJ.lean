/-
  The contracts of the reference's Of and Quota.
-/
import Derived.Test.YtmmjciigbmgloaaPoI
import Derived.Test.YtmmjciigbmgloaaPoH
namespace Go.Proofs.Ytmmjciigbmgloaa
open Go.RowKit
set_option linter.unusedVariables false
set_option linter.unusedSimpArgs false

theorem ofQ_none {qs : List Qt} {a b : Int} (h : fnd qs a b = none) : ofQ qs a b = ⟨a, b, 0, 0, 0⟩ := by rw [ofQ, h]; rfl
theorem ofQ_some {qs : List Qt} {a b : Int} {x : Qt} (h : fnd qs a b = some x) : ofQ qs a b = x := by rw [ofQ, h]; rfl

set_option maxRecDepth 100000 in
set_option maxHeartbeats 1600000 in
theorem rOf_of (y0 y1 y2 y3 y4 : Int) (A : Option Addr) (n c : Nat) (B : Option Addr) (m d : Nat) (g : Int) (us : List Cl) (qs : List Qt) (l0 l1 : Int) (hz : Hid (ofQ qs l0 l1 = ⟨y0, y1, y2, y3, y4⟩)) (w : World) (hp : Pol w A n c B m d g us qs) :
    Calls Try.prog 40 #[.agg #[.slice A n c, .slice B m d, .int .i64 g], .agg #[.int .u8 l0, .int .u32 l1]] w fun e w' => e = .returned (.agg #[.int .u8 y0, .int .u32 y1, .int .i64 y2, .int .i64 y3, .int .i64 y4]) ∧ Below w.heap.size w w' := by
  have HP := hid hp
  have hc2 : (d : Int) ≤ 9223372036854775807 := by have := hp.hq.cap; omega
  have hc1 : (m : Int) ≤ d := by have := hp.hq.len; have := hp.hm; omega
  have hE := eql_label
  clear hp
  go_enter Try.func40, Try.ntmps40
  go_wp2_with fail
  generalize hW : ((w.alloc _).alloc _).alloc _ = W
  have hbW : Below w.heap.size w W := by subst hW; go_grown
  (have s0 : W.cell? ⟨w.heap.size, 0, none⟩ = some (.slice A n c) := ((by subst hW; simp [go_sem])); have s1 : W.cell? ⟨w.heap.size, 1, none⟩ = some (.slice B m d) := ((by subst hW; simp [go_sem])); have s2 : W.cell? ⟨w.heap.size, 2, none⟩ = some (.int .i64 g) := ((by subst hW; simp [go_sem])))
  (have t0 : W.cell? ⟨w.heap.size + 1, 0, none⟩ = some (.int .u8 l0) := ((by subst hW; simp [go_sem])); have t1 : W.cell? ⟨w.heap.size + 1, 1, none⟩ = some (.int .u32 l1) := ((by subst hW; simp [go_sem])))
  (have u0 : W.cell? ⟨w.heap.size + 1 + 1, 0, none⟩ = some (.int .u8 0) := ((by subst hW; simp [go_sem])); have u1 : W.cell? ⟨w.heap.size + 1 + 1, 1, none⟩ = some (.int .u32 0) := ((by subst hW; simp [go_sem])); have u2 : W.cell? ⟨w.heap.size + 1 + 1, 2, none⟩ = some (.int .i64 0) := ((by subst hW; simp [go_sem])); have u3 : W.cell? ⟨w.heap.size + 1 + 1, 3, none⟩ = some (.int .i64 0) := ((by subst hW; simp [go_sem])); have u4 : W.cell? ⟨w.heap.size + 1 + 1, 4, none⟩ = some (.int .i64 0) := ((by subst hW; simp [go_sem])))
  (have f0 : W.frozen? ⟨w.heap.size + 1 + 1, 0, none⟩ = false := ((by subst hW; simp [go_sem])); have f1 : W.frozen? ⟨w.heap.size + 1 + 1, 1, none⟩ = false := ((by subst hW; simp [go_sem])); have f2 : W.frozen? ⟨w.heap.size + 1 + 1, 2, none⟩ = false := ((by subst hW; simp [go_sem])); have f3 : W.frozen? ⟨w.heap.size + 1 + 1, 3, none⟩ = false := ((by subst hW; simp [go_sem])); have f4 : W.frozen? ⟨w.heap.size + 1 + 1, 4, none⟩ = false := ((by subst hW; simp [go_sem])))
  clear hW
  go_loopw [5] (fun i wr => ∃ (j : Nat), j ≤ m ∧ i = .int .i64 (j : Int) ∧ Hid (fnd (qs.drop j) l0 l1 = fnd qs l0 l1) ∧ Below W.heap.size W wr) (fun i _ => m - (intOf i).toNat)
  case atStart => exact ⟨0, by omega, rfl, hid rfl, Below.refl _ _⟩
  case round =>
    obtain ⟨j, hj, rfl, hp, hb⟩ := hrel
    (replace f0 := keepz hb u0 f0; replace f1 := keepz hb u1 f1; replace f2 := keepz hb u2 f2; replace f3 := keepz hb u3 f3; replace f4 := keepz hb u4 f4)
    (replace u0 := keep hb u0; replace u1 := keep hb u1; replace u2 := keep hb u2; replace u3 := keep hb u3; replace u4 := keep hb u4)
    (replace s0 := keep hb s0; replace s1 := keep hb s1; replace s2 := keep hb s2)
    (replace t0 := keep hb t0; replace t1 := keep hb t1)
    have hbw := below_in hbW hb
    by_cases hlt : j < m
    · have hl := HP.out.hm
      obtain ⟨b, o, rfl, hcell⟩ := (HP.out.hq.keep hbw).at_ (by omega)
      obtain ⟨k0, k1, k2, k3, k4, ht⟩ := hcell j (by omega)
      have hs := fnd_drop (qs := qs) (a := l0) (b := l1) (j := j) (by omega)
      generalize qs[j]'(by omega) = x at k0 k1 k2 k3 k4 ht hs
      obtain ⟨x0, x1, x2, x3, x4⟩ := x
      have hlt2 : (j : Int) < (m : Int) := by omega
      have HS := hid hs
      clear hs hcell hl ht
      go_wp2_with fail
      (have g0 := Past.all s0; have g1 := Past.all s1; have g2 := Past.all s2)
      (have h0 := Past.all t0; have h1 := Past.all t1)
      (have r0 := Past.all k0; have r1 := Past.all k1; have r2 := Past.all k2; have r3 := Past.all k3; have r4 := Past.all k4)
      cases hd : sameL x0 x1 l0 l1
      · have hs := HS.out
        rw [hd, if_neg (by decide)] at hs
        have HN : Hid (fnd (qs.drop (j + 1)) l0 l1 = fnd qs l0 l1) := hid (by rw [← hs, hp.out])
        clear hs HS hp
        refine wp_region_past (by kernel_rfl) (by kernel_rfl) ?_
        repeat (go_big_quiet_step (fail))
        refine wpQuiet_nil ?_
        rintro w4 ⟨⟨_, hx⟩, rfl⟩
        replace hb := below_in hb hx
        clear hx g0 g1 g2 h0 h1 r0 r1 r2 r3 r4 u0 u1 u2 u3 u4 s0 s1 s2 t0 t1 f0 f1 f2 f3 f4 k0 k1 k2 k3 k4
        go_wp2
        go_roundw
        case rel => exact ⟨j + 1, by omega, by go_num, HN, hb⟩
        case measure => simp [intOf]; omega
      · have hs := HS.out
        rw [hd, if_pos rfl] at hs
        have HN : Hid (x0 = y0 ∧ x1 = y1 ∧ x2 = y2 ∧ x3 = y3 ∧ x4 = y4) := hid (by
          have h1 := hz.out
          rw [ofQ_some (hp.out.symm.trans hs)] at h1
          injection h1 with h1 h2 h3 h4 h5
          exact ⟨h1, h2, h3, h4, h5⟩)
        obtain ⟨rfl, rfl, rfl, rfl, rfl⟩ := HN.out
        clear hs HS hp HN
        refine wp_region_past (by kernel_rfl) (by kernel_rfl) ?_
        repeat (go_big_quiet_step (fail))
        refine wpQuiet_nil ?_
        rintro w4 ⟨⟨_, hx⟩, rfl⟩
        have hB := below_in hbw hx
        (replace f0 := keepz hx u0 f0; replace f1 := keepz hx u1 f1; replace f2 := keepz hx u2 f2; replace f3 := keepz hx u3 f3; replace f4 := keepz hx u4 f4)
        (replace u0 := keep hx u0; replace u1 := keep hx u1; replace u2 := keep hx u2; replace u3 := keep hx u3; replace u4 := keep hx u4)
        (replace k0 := keep hx k0; replace k1 := keep hx k1; replace k2 := keep hx k2; replace k3 := keep hx k3; replace k4 := keep hx k4)
        (replace s0 := keep hx s0; replace s1 := keep hx s1; replace s2 := keep hx s2)
        clear hx hb hbw g0 g1 g2 h0 h1 r0 r1 r2 r3 r4
        go_wp2
        exact bodyPost_ret (v := .agg #[.int .u8 x0, .int .u32 x1, .int .i64 x2, .int .i64 x3, .int .i64 x4]) (by simp [results, Try.results40, go_sem, u0, u1, u2, u3, u4]) rfl ⟨rfl, set5 hB (by omega) _ _ _ _ _⟩
    · obtain rfl : j = m := by omega
      have HN : Hid (l0 = y0 ∧ l1 = y1 ∧ y2 = 0 ∧ y3 = 0 ∧ y4 = 0) := hid (by
        have h1 := hz.out
        have h2 := hp.out
        rw [fnd_end (by have := HP.out.hm; omega)] at h2
        rw [ofQ_none h2.symm] at h1
        injection h1 with h1 h2 h3 h4 h5
        exact ⟨h1, h2, h3.symm, h4.symm, h5.symm⟩)
      obtain ⟨rfl, rfl, rfl, rfl, rfl⟩ := HN.out
      clear hp HN
      go_wp2
      exact bodyPost_ret (v := .agg #[.int .u8 l0, .int .u32 l1, .int .i64 0, .int .i64 0, .int .i64 0]) (by simp [results, Try.results40, go_sem, u0, u1, u2, u3, u4]) rfl ⟨rfl, set5 hbw (by omega) _ _ _ _ _⟩

set_option maxRecDepth 100000 in
set_option maxHeartbeats 1600000 in
theorem rQuota_of (y0 y1 y2 y3 y4 k : Int) (A : Option Addr) (n c : Nat) (B : Option Addr) (m d : Nat) (g : Int) (us : List Cl) (qs : List Qt) (l0 l1 : Int) (hz : Hid (quotaV us qs g l0 l1 = ⟨y0, y1, y2, y3, y4⟩ ∧ er (askB us qs g l0) = k)) (w : World) (hp : Pol w A n c B m d g us qs) :
    Calls Try.prog 18 #[.agg #[.slice A n c, .slice B m d, .int .i64 g], .agg #[.int .u8 l0, .int .u32 l1]] w fun e w' => e = .returned (.tuple #[.agg #[.int .u8 y0, .int .u32 y1, .int .i64 y2, .int .i64 y3, .int .i64 y4], .int .i64 k]) ∧ Below w.heap.size w w' := by
  have HP := hid hp
  have hx := hz.out
  rw [quotaV] at hx
  cases hq : rightB us qs g
  · have ha : askB us qs g l0 = false := by rw [askB, hq]; rfl
    rw [ha, if_neg (by decide)] at hx
    obtain ⟨hv, rfl⟩ := hx
    injection hv with v0 v1 v2 v3 v4
    subst v0 v1 v2 v3 v4
    have e8 : er false = 8 := rfl
    have HQ := hid hq
    clear hp hq hz ha
    rw [e8]
    go_enter Try.func18, Try.ntmps18
    go_wp2_with fail
    refine (rRight_of false A n c B m d g us qs HQ _ (HP.out.keep (by go_grown))).mono ?_
    rintro e w1 ⟨rfl, b1⟩
    (have u0 : w1.cell? ⟨w.heap.size + 1 + 1, 0, none⟩ = some (.int .u8 0) := (keep b1 (by simp [go_sem])); have u1 : w1.cell? ⟨w.heap.size + 1 + 1, 1, none⟩ = some (.int .u32 0) := (keep b1 (by simp [go_sem])); have u2 : w1.cell? ⟨w.heap.size + 1 + 1, 2, none⟩ = some (.int .i64 0) := (keep b1 (by simp [go_sem])); have u3 : w1.cell? ⟨w.heap.size + 1 + 1, 3, none⟩ = some (.int .i64 0) := (keep b1 (by simp [go_sem])); have u4 : w1.cell? ⟨w.heap.size + 1 + 1, 4, none⟩ = some (.int .i64 0) := (keep b1 (by simp [go_sem])))
    (have f0 : w1.frozen? ⟨w.heap.size + 1 + 1, 0, none⟩ = false := (keepz b1 (v := .int .u8 0) (by simp [go_sem]) (by simp [go_sem])); have f1 : w1.frozen? ⟨w.heap.size + 1 + 1, 1, none⟩ = false := (keepz b1 (v := .int .u32 0) (by simp [go_sem]) (by simp [go_sem])); have f2 : w1.frozen? ⟨w.heap.size + 1 + 1, 2, none⟩ = false := (keepz b1 (v := .int .i64 0) (by simp [go_sem]) (by simp [go_sem])); have f3 : w1.frozen? ⟨w.heap.size + 1 + 1, 3, none⟩ = false := (keepz b1 (v := .int .i64 0) (by simp [go_sem]) (by simp [go_sem])); have f4 : w1.frozen? ⟨w.heap.size + 1 + 1, 4, none⟩ = false := (keepz b1 (v := .int .i64 0) (by simp [go_sem]) (by simp [go_sem])))
    replace b1 := past_alloc3 b1
    go_wp2
    exact bodyPost_ret (v := .tuple #[.agg #[.int .u8 0, .int .u32 0, .int .i64 0, .int .i64 0, .int .i64 0], .int .i64 8]) (by simp [results, Try.results18, go_sem, u0, u1, u2, u3, u4]) rfl ⟨rfl, set5 b1 (by omega) _ _ _ _ _⟩
  cases hm : mayL l0
  · have ha : askB us qs g l0 = false := by rw [askB, hm, Bool.and_false]
    rw [ha, if_neg (by decide)] at hx
    obtain ⟨hv, rfl⟩ := hx
    injection hv with v0 v1 v2 v3 v4
    subst v0 v1 v2 v3 v4
    have e8 : er false = 8 := rfl
    have HQ := hid hq
    have HM := hid hm
    clear hp hq hz ha hm
    rw [e8]
    go_enter Try.func18, Try.ntmps18
    go_wp2_with fail
    refine (rRight_of true A n c B m d g us qs HQ _ (HP.out.keep (by go_grown))).mono ?_
    rintro e w1 ⟨rfl, b1⟩
    (have t0 : w1.cell? ⟨w.heap.size + 1, 0, none⟩ = some (.int .u8 l0) := (keep b1 (by simp [go_sem])); have t1 : w1.cell? ⟨w.heap.size + 1, 1, none⟩ = some (.int .u32 l1) := (keep b1 (by simp [go_sem])))
    (have u0 : w1.cell? ⟨w.heap.size + 1 + 1, 0, none⟩ = some (.int .u8 0) := (keep b1 (by simp [go_sem])); have u1 : w1.cell? ⟨w.heap.size + 1 + 1, 1, none⟩ = some (.int .u32 0) := (keep b1 (by simp [go_sem])); have u2 : w1.cell? ⟨w.heap.size + 1 + 1, 2, none⟩ = some (.int .i64 0) := (keep b1 (by simp [go_sem])); have u3 : w1.cell? ⟨w.heap.size + 1 + 1, 3, none⟩ = some (.int .i64 0) := (keep b1 (by simp [go_sem])); have u4 : w1.cell? ⟨w.heap.size + 1 + 1, 4, none⟩ = some (.int .i64 0) := (keep b1 (by simp [go_sem])))
    (have f0 : w1.frozen? ⟨w.heap.size + 1 + 1, 0, none⟩ = false := (keepz b1 (v := .int .u8 0) (by simp [go_sem]) (by simp [go_sem])); have f1 : w1.frozen? ⟨w.heap.size + 1 + 1, 1, none⟩ = false := (keepz b1 (v := .int .u32 0) (by simp [go_sem]) (by simp [go_sem])); have f2 : w1.frozen? ⟨w.heap.size + 1 + 1, 2, none⟩ = false := (keepz b1 (v := .int .i64 0) (by simp [go_sem]) (by simp [go_sem])); have f3 : w1.frozen? ⟨w.heap.size + 1 + 1, 3, none⟩ = false := (keepz b1 (v := .int .i64 0) (by simp [go_sem]) (by simp [go_sem])); have f4 : w1.frozen? ⟨w.heap.size + 1 + 1, 4, none⟩ = false := (keepz b1 (v := .int .i64 0) (by simp [go_sem]) (by simp [go_sem])))
    replace b1 := past_alloc3 b1
    go_wp2_with fail
    refine (rMay_of false l0 l1 HM _).mono ?_
    rintro e w2 ⟨rfl, b2⟩
    (replace f0 := keepz b2 u0 f0; replace f1 := keepz b2 u1 f1; replace f2 := keepz b2 u2 f2; replace f3 := keepz b2 u3 f3; replace f4 := keepz b2 u4 f4)
    (replace u0 := keep b2 u0; replace u1 := keep b2 u1; replace u2 := keep b2 u2; replace u3 := keep b2 u3; replace u4 := keep b2 u4)
    replace b1 := below_in b1 b2
    clear b2
    go_wp2
    exact bodyPost_ret (v := .tuple #[.agg #[.int .u8 0, .int .u32 0, .int .i64 0, .int .i64 0, .int .i64 0], .int .i64 8]) (by simp [results, Try.results18, go_sem, u0, u1, u2, u3, u4]) rfl ⟨rfl, set5 b1 (by omega) _ _ _ _ _⟩
  · have ha : askB us qs g l0 = true := by rw [askB, hq, hm]; rfl
    rw [ha, if_pos rfl] at hx
    obtain ⟨hx1, rfl⟩ := hx
    have e0 : er true = 0 := rfl
    have HQ := hid hq
    have HM := hid hm
    have HX := hid hx1
    clear hp hq hz ha hm hx1
    rw [e0]
    go_enter Try.func18, Try.ntmps18
    go_wp2_with fail
    refine (rRight_of true A n c B m d g us qs HQ _ (HP.out.keep (by go_grown))).mono ?_
    rintro e w1 ⟨rfl, b1⟩
    (have s0 : w1.cell? ⟨w.heap.size, 0, none⟩ = some (.slice A n c) := (keep b1 (by simp [go_sem])); have s1 : w1.cell? ⟨w.heap.size, 1, none⟩ = some (.slice B m d) := (keep b1 (by simp [go_sem])); have s2 : w1.cell? ⟨w.heap.size, 2, none⟩ = some (.int .i64 g) := (keep b1 (by simp [go_sem])))
    (have t0 : w1.cell? ⟨w.heap.size + 1, 0, none⟩ = some (.int .u8 l0) := (keep b1 (by simp [go_sem])); have t1 : w1.cell? ⟨w.heap.size + 1, 1, none⟩ = some (.int .u32 l1) := (keep b1 (by simp [go_sem])))
    (have u0 : w1.cell? ⟨w.heap.size + 1 + 1, 0, none⟩ = some (.int .u8 0) := (keep b1 (by simp [go_sem])); have u1 : w1.cell? ⟨w.heap.size + 1 + 1, 1, none⟩ = some (.int .u32 0) := (keep b1 (by simp [go_sem])); have u2 : w1.cell? ⟨w.heap.size + 1 + 1, 2, none⟩ = some (.int .i64 0) := (keep b1 (by simp [go_sem])); have u3 : w1.cell? ⟨w.heap.size + 1 + 1, 3, none⟩ = some (.int .i64 0) := (keep b1 (by simp [go_sem])); have u4 : w1.cell? ⟨w.heap.size + 1 + 1, 4, none⟩ = some (.int .i64 0) := (keep b1 (by simp [go_sem])))
    (have f0 : w1.frozen? ⟨w.heap.size + 1 + 1, 0, none⟩ = false := (keepz b1 (v := .int .u8 0) (by simp [go_sem]) (by simp [go_sem])); have f1 : w1.frozen? ⟨w.heap.size + 1 + 1, 1, none⟩ = false := (keepz b1 (v := .int .u32 0) (by simp [go_sem]) (by simp [go_sem])); have f2 : w1.frozen? ⟨w.heap.size + 1 + 1, 2, none⟩ = false := (keepz b1 (v := .int .i64 0) (by simp [go_sem]) (by simp [go_sem])); have f3 : w1.frozen? ⟨w.heap.size + 1 + 1, 3, none⟩ = false := (keepz b1 (v := .int .i64 0) (by simp [go_sem]) (by simp [go_sem])); have f4 : w1.frozen? ⟨w.heap.size + 1 + 1, 4, none⟩ = false := (keepz b1 (v := .int .i64 0) (by simp [go_sem]) (by simp [go_sem])))
    replace b1 := past_alloc3 b1
    go_wp2_with fail
    refine (rMay_of true l0 l1 HM _).mono ?_
    rintro e w2 ⟨rfl, b2⟩
    (replace f0 := keepz b2 u0 f0; replace f1 := keepz b2 u1 f1; replace f2 := keepz b2 u2 f2; replace f3 := keepz b2 u3 f3; replace f4 := keepz b2 u4 f4)
    (replace u0 := keep b2 u0; replace u1 := keep b2 u1; replace u2 := keep b2 u2; replace u3 := keep b2 u3; replace u4 := keep b2 u4)
    (replace s0 := keep b2 s0; replace s1 := keep b2 s1; replace s2 := keep b2 s2)
    (replace t0 := keep b2 t0; replace t1 := keep b2 t1)
    replace b1 := below_in b1 b2
    clear b2
    go_wp2_with fail
    refine (rOf_of y0 y1 y2 y3 y4 A n c B m d g us qs l0 l1 HX _ (HP.out.keep b1)).mono ?_
    rintro e w3 ⟨rfl, b3⟩
    (replace f0 := keepz b3 u0 f0; replace f1 := keepz b3 u1 f1; replace f2 := keepz b3 u2 f2; replace f3 := keepz b3 u3 f3; replace f4 := keepz b3 u4 f4)
    (replace u0 := keep b3 u0; replace u1 := keep b3 u1; replace u2 := keep b3 u2; replace u3 := keep b3 u3; replace u4 := keep b3 u4)
    replace b1 := below_in b1 b3
    clear b3
    go_wp2
    exact bodyPost_ret (v := .tuple #[.agg #[.int .u8 y0, .int .u32 y1, .int .i64 y2, .int .i64 y3, .int .i64 y4], .int .i64 0]) (by simp [results, Try.results18, go_sem, u0, u1, u2, u3, u4]) rfl ⟨rfl, set5 b1 (by omega) _ _ _ _ _⟩
end Go.Proofs.Ytmmjciigbmgloaa
