/-
  The contracts of the reference's Sum and Right.
-/
import Derived.Test.YtbigppdaoakkfaaPoR
namespace Go.Proofs.Ytbigppdaoakkfaa
open Go.RowKit
set_option linter.unusedVariables false
set_option linter.unusedSimpArgs false

theorem okQ_le {qs : List Qt} : ∀ {m j : Nat}, okQ qs m = true → j < m → quotaB (qs.getD j zQ) = true ∧ okQ qs j = true
  | m + 1, j, h, hj => by
    rw [okQ, Bool.and_eq_true, Bool.and_eq_true] at h
    by_cases e : j = m
    · subst e; exact ⟨h.2.1, h.1⟩
    · exact okQ_le h.1 (by omega)
theorem okQ_false {qs : List Qt} {j : Nat} (h : (quotaB (qs.getD j zQ) && nextB qs j) = false) : ∀ n, j < n → okQ qs n = false
  | n + 1, hn => by
    rw [okQ]
    by_cases e : j = n
    · subst e; rw [h, Bool.and_false]
    · rw [okQ_false h n (by omega), Bool.false_and]
theorem okU_false {us : List Cl} {j : Nat} (h : clearB (us.getD j zC) = false) : ∀ n, j < n → okU us n = false
  | n + 1, hn => by
    rw [okU]
    by_cases e : j = n
    · subst e; rw [h, Bool.and_false]
    · rw [okU_false h n (by omega), Bool.false_and]

set_option maxRecDepth 100000 in
set_option maxHeartbeats 1600000 in
theorem rSum_of (v : Int) (A : Option Addr) (n c : Nat) (B : Option Addr) (m d : Nat) (g : Int) (us : List Cl) (qs : List Qt) (hm : m ≤ 8) (hg0 : 0 ≤ g) (hg1 : g ≤ 64) (hq : Hid (okQ qs m = true)) (hv : Hid (g + smB qs m = v)) (w : World) (hp : Pol w A n c B m d g us qs) :
    Calls Try.prog 52 #[.agg #[.slice A n c, .slice B m d, .int .i64 g]] w fun e w' => e = .returned (.int .i64 v) ∧ Below w.heap.size w w' := by
  have HP := hid hp
  have hc2 : (d : Int) ≤ 9223372036854775807 := by have := hp.hq.cap; omega
  have hc1 : (m : Int) ≤ d := by have := hp.hq.len; have := hp.hm; omega
  clear hp
  go_enter Try.func52, Try.ntmps52
  go_wp2_with fail
  generalize hW : w.alloc _ = W
  have hbW : Below w.heap.size w W := by subst hW; go_grown
  (have s0 : W.cell? ⟨w.heap.size, 0, none⟩ = some (.slice A n c) := ((by subst hW; simp [go_sem])); have s1 : W.cell? ⟨w.heap.size, 1, none⟩ = some (.slice B m d) := ((by subst hW; simp [go_sem])); have s2 : W.cell? ⟨w.heap.size, 2, none⟩ = some (.int .i64 g) := ((by subst hW; simp [go_sem])))
  clear hW
  go_loopw [3, 4] (fun x i wr => ∃ (j : Nat) (z : Int), j ≤ m ∧ i = .int .i64 (j : Int) ∧ x = .int .i64 z ∧ 0 ≤ z ∧ z ≤ 64 + j * 1088 ∧ Hid (z = g + smB qs j) ∧ Below W.heap.size W wr) (fun _ i _ => m - (intOf i).toNat)
  case atStart => exact ⟨0, g, by omega, rfl, rfl, hg0, by omega, hid (by rw [smB]; omega), Below.refl _ _⟩
  case round =>
    obtain ⟨j, z, hj, rfl, rfl, hz0, hz1, hp, hb⟩ := hrel
    (replace s0 := keep hb s0; replace s1 := keep hb s1; replace s2 := keep hb s2)
    have hbw := below_in hbW hb
    by_cases hlt : j < m
    · have hl := HP.out.hm
      obtain ⟨b, o, rfl, hcell⟩ := (HP.out.hq.keep hbw).at_ (by omega)
      obtain ⟨k0, k1, k2, k3, k4, ht⟩ := hcell j (by omega)
      have hs : smB qs (j + 1) = smB qs j + ((qs[j]'(by omega)).o + 4 * (qs[j]'(by omega)).p) := by rw [smB, getD_at qs zQ j (by omega)]
      have hr := quotaB_range (okQ_le hq.out hlt).1
      rw [getD_at qs zQ j (by omega)] at hr
      generalize qs[j]'(by omega) = x at k0 k1 k2 k3 k4 ht hs hr
      obtain ⟨x0, x1, x2, x3, x4⟩ := x
      obtain ⟨⟨r0, r1⟩, ⟨r2, r3⟩, _⟩ := hr
      dsimp only at r0 r1 r2 r3
      have hlt2 : (j : Int) < (m : Int) := by omega
      have HS := hid (show z + x2 + 4 * x3 = g + smB qs (j + 1) by rw [hs, hp.out]; simp only; omega)
      clear hs hcell hl ht
      have hw1 : IntKind.i64.wrap (z + x2) = z + x2 := by rw [IntKind.wrap_i64]; omega
      have hw2 : IntKind.i64.wrap (4 * x3) = 4 * x3 := by rw [IntKind.wrap_i64]; omega
      have hw3 : IntKind.i64.wrap (z + x2 + 4 * x3) = z + x2 + 4 * x3 := by rw [IntKind.wrap_i64]; omega
      go_wp2_with fail
      (have q0 := Past.all s0; have q1 := Past.all s1; have q2 := Past.all s2)
      (have r0 := Past.all k0; have r1 := Past.all k1; have r2 := Past.all k2; have r3 := Past.all k3; have r4 := Past.all k4)
      refine wp_region_past (by kernel_rfl) (by kernel_rfl) ?_
      repeat (go_big_quiet_step (fail))
      refine wpQuiet_nil ?_
      rintro w4 ⟨⟨_, hx⟩, rfl⟩
      replace hb := below_in hb hx
      clear q0 q1 q2 r0 r1 r2 r3 r4 k0 k1 k2 k3 k4
      go_wp2
      go_roundw
      case rel => exact ⟨j + 1, z + x2 + 4 * x3, by omega, by go_num, by first | rfl | simp [hw3], by omega, by omega, HS, hb⟩
      case measure => simp [intOf]; omega
    · obtain rfl : j = m := by omega
      go_wp2
      go_ret
      exact ⟨ret_int (by rw [hp.out, hv.out]), hbw⟩

theorem right_out {us : List Cl} {qs : List Qt} {g : Int} (h : 8 < us.length ∨ 8 < qs.length ∨ g < 0 ∨ 64 < g) : rightB us qs g = false := by
  rw [Bool.eq_false_iff]
  intro hh
  simp only [rightB, usersB, quotasB, inR, Bool.and_eq_true, decide_eq_true_eq] at hh
  omega
theorem right_users {us : List Cl} {qs : List Qt} {g : Int} {j : Nat} (hj : j < us.length) (h : clearB (us.getD j zC) = false) : rightB us qs g = false := by
  rw [rightB, usersB, okU_false h _ hj]; simp
theorem right_quotas {us : List Cl} {qs : List Qt} {g : Int} {j : Nat} (hj : j < qs.length) (h : (quotaB (qs.getD j zQ) && nextB qs j) = false) : rightB us qs g = false := by
  rw [rightB, quotasB, okQ_false h _ hj]; simp
theorem right_sums {us : List Cl} {qs : List Qt} {g : Int} (h1 : us.length ≤ 8) (h2 : qs.length ≤ 8) (h3 : 0 ≤ g ∧ g ≤ 64) (h4 : okU us us.length = true) (h5 : okQ qs qs.length = true) :
    rightB us qs g = (decide (g + smB qs qs.length ≤ 2048) && decide (smC qs qs.length ≤ 8192)) := by
  rw [rightB, usersB, quotasB, inR, h4, h5, decide_eq_true h1, decide_eq_true h2, decide_eq_true h3]; simp

set_option maxRecDepth 100000 in
set_option maxHeartbeats 4000000 in
theorem rRight_of (q : Bool) (A : Option Addr) (n c : Nat) (B : Option Addr) (m d : Nat) (g : Int) (us : List Cl) (qs : List Qt) (hq : Hid (rightB us qs g = q)) (w : World) (hp : Pol w A n c B m d g us qs) :
    Calls Try.prog 33 #[.agg #[.slice A n c, .slice B m d, .int .i64 g]] w fun e w' => e = .returned (.bool q) ∧ Below w.heap.size w w' := by
  have HP := hid hp
  have hc2 : (c : Int) ≤ 9223372036854775807 := by have := hp.hu.cap; omega
  have hc1 : (n : Int) ≤ c := by have := hp.hu.len; have := hp.hn; omega
  have hd2 : (d : Int) ≤ 9223372036854775807 := by have := hp.hq.cap; omega
  have hd1 : (m : Int) ≤ d := by have := hp.hq.len; have := hp.hm; omega
  by_cases h1 : 8 < n
  · have d1 : decide (8 < (n : Int)) = true := decide_eq_true (by omega)
    have HV := hid (show q = false by rw [← hq.out]; exact right_out (.inl (by rw [hp.hn]; exact h1)))
    clear h1 hp
    go_enter Try.func33, Try.ntmps33
    go_wp2
    go_ret
    exact ⟨ret_bool HV.out.symm, by go_grown⟩
  have d1 : decide (8 < (n : Int)) = false := decide_eq_false (by omega)
  by_cases h2 : 8 < m
  · have d2 : decide (8 < (m : Int)) = true := decide_eq_true (by omega)
    have HV := hid (show q = false by rw [← hq.out]; exact right_out (.inr (.inl (by rw [hp.hm]; exact h2))))
    clear h1 h2 hp
    go_enter Try.func33, Try.ntmps33
    go_wp2
    go_ret
    exact ⟨ret_bool HV.out.symm, by go_grown⟩
  have d2 : decide (8 < (m : Int)) = false := decide_eq_false (by omega)
  by_cases h3 : g < 0
  · have d3 : decide (g < 0) = true := decide_eq_true h3
    have HV := hid (show q = false by rw [← hq.out]; exact right_out (.inr (.inr (.inl h3))))
    clear h1 h2 h3 hp
    go_enter Try.func33, Try.ntmps33
    go_wp2
    go_ret
    exact ⟨ret_bool HV.out.symm, by go_grown⟩
  have d3 : decide (g < 0) = false := decide_eq_false h3
  by_cases h4 : 64 < g
  · have d4 : decide (64 < g) = true := decide_eq_true h4
    have HV := hid (show q = false by rw [← hq.out]; exact right_out (.inr (.inr (.inr h4))))
    clear h1 h2 h3 h4 hp
    go_enter Try.func33, Try.ntmps33
    go_wp2
    go_ret
    exact ⟨ret_bool HV.out.symm, by go_grown⟩
  have d4 : decide (64 < g) = false := decide_eq_false h4
  have HN := hid (show n ≤ 8 ∧ m ≤ 8 ∧ 0 ≤ g ∧ g ≤ 64 by omega)
  clear h1 h2 h3 h4 hp
  go_enter Try.func33, Try.ntmps33
  go_wp2_with fail
  generalize hW : w.alloc _ = W
  have hbW : Below w.heap.size w W := by subst hW; go_grown
  (have s0 : W.cell? ⟨w.heap.size, 0, none⟩ = some (.slice A n c) := ((by subst hW; simp [go_sem])); have s1 : W.cell? ⟨w.heap.size, 1, none⟩ = some (.slice B m d) := ((by subst hW; simp [go_sem])); have s2 : W.cell? ⟨w.heap.size, 2, none⟩ = some (.int .i64 g) := ((by subst hW; simp [go_sem])))
  clear hW d1 d2 d3 d4
  go_loopw [3] (fun i wr => ∃ (j : Nat), j ≤ n ∧ i = .int .i64 (j : Int) ∧ Hid (okU us j = true) ∧ Below W.heap.size W wr) (fun i _ => n - (intOf i).toNat)
  case atStart => exact ⟨0, by omega, rfl, hid rfl, Below.refl _ _⟩
  case round =>
    obtain ⟨j, hj, rfl, hp, hb⟩ := hrel
    have hbw := below_in hbW hb
    have s0' := keep hb s0
    have s1' := keep hb s1
    have s2' := keep hb s2
    by_cases hlt : j < n
    · have hl := HP.out.hn
      obtain ⟨b, o, rfl, hcell⟩ := (HP.out.hu.keep hbw).at_ (by omega)
      obtain ⟨k0, k1, k2, ht⟩ := hcell j (by omega)
      have hs : okU us (j + 1) = (okU us j && clearB (us[j]'(by omega))) := by rw [okU, getD_at us zC j (by omega)]
      have hf := fun (h : clearB (us[j]'(by omega)) = false) => right_users (us := us) (qs := qs) (g := g) (j := j) (by omega) (by rw [getD_at us zC j (by omega)]; exact h)
      generalize us[j]'(by omega) = x at k0 k1 k2 ht hs hf
      obtain ⟨x0, x1, x2⟩ := x
      have hlt2 : (j : Int) < (n : Int) := by omega
      generalize hx : clearB ⟨x0, x1, x2⟩ = y at hs hf
      have HS := hid hs
      have HF := hid hf
      have HX := hid hx
      clear hs hf hx hcell hl ht s0 s1 s2
      go_wp2_with fail
      refine (rClear_of y x0 x1 x2 HX _).mono ?_
      rintro e w2 ⟨rfl, b2⟩
      replace hb := below_in hb b2
      replace hbw := below_in hbw b2
      clear b2
      cases y
      · go_wp2
        go_ret
        exact ⟨ret_bool (by rw [← hq.out, HF.out (by first | rfl | trivial)]), hbw⟩
      · go_wp2
        go_roundw
        case rel => exact ⟨j + 1, by omega, by go_num, hid (by rw [HS.out, hp.out]; rfl), hb⟩
        case measure => simp [intOf]; omega
    · obtain rfl : j = n := by omega
      have HU := hp
      clear hp hj hlt
      go_wp2_with fail
      clear s0' s1' s2'
      go_loopw [4] (fun i wr => ∃ (k : Nat), k ≤ m ∧ i = .int .i64 (k : Int) ∧ Hid (okQ qs k = true) ∧ Below W.heap.size W wr) (fun i _ => m - (intOf i).toNat)
      case atStart => exact ⟨0, by omega, rfl, hid rfl, hb⟩
      case round =>
        obtain ⟨k, hk, rfl, hp, hb⟩ := hrel
        have hbw := below_in hbW hb
        (have p0 := keep hb s0; have p1 := keep hb s1; have p2 := keep hb s2)
        by_cases hlt : k < m
        · have hl := HP.out.hm
          obtain ⟨b, o, rfl, hcell⟩ := (HP.out.hq.keep hbw).at_ (by omega)
          obtain ⟨k0, k1, k2, k3, k4, ht⟩ := hcell k (by omega)
          have hs : okQ qs (k + 1) = (okQ qs k && (quotaB (qs[k]'(by omega)) && nextB qs k)) := by rw [okQ, getD_at qs zQ k (by omega)]
          have hf := fun (h : (quotaB (qs[k]'(by omega)) && nextB qs k) = false) => right_quotas (us := us) (qs := qs) (g := g) (j := k) (by omega) (by rw [getD_at qs zQ k (by omega)]; exact h)
          have hlt2 : (k : Int) < (m : Int) := by omega
          cases k with
          | zero =>
            have hs2 : nextB qs 0 = true := rfl
            rw [hs2] at hs hf
            generalize qs[0]'(by omega) = x at k0 k1 k2 k3 k4 ht hs hf
            obtain ⟨x0, x1, x2, x3, x4⟩ := x
            simp only [Nat.zero_mul, Nat.add_zero] at k0 k1 k2 k3 k4
            generalize hx : quotaB ⟨x0, x1, x2, x3, x4⟩ = y at hs hf
            have HS := hid hs
            have HF := hid hf
            have HX := hid hx
            clear hs hf hx hcell hl ht hs2 s0 s1 s2
            go_wp2_with fail
            (have q0 := Past.all p0; have q1 := Past.all p1; have q2 := Past.all p2)
            (have r0 := Past.all k0; have r1 := Past.all k1; have r2 := Past.all k2; have r3 := Past.all k3; have r4 := Past.all k4)
            cases y
            · refine wp_region_past (by kernel_rfl) (by kernel_rfl) ?_
              repeat (go_big_quiet_step (exact quiet_below (rOne_of false _ _ _ _ _ HX _)))
              refine wpQuiet_nil ?_
              rintro w4 ⟨⟨_, hx⟩, rfl⟩
              replace hbw := below_in hbw hx
              clear q0 q1 q2 r0 r1 r2 r3 r4
              go_wp2
              go_ret
              exact ⟨ret_bool (by rw [← hq.out, HF.out (by first | rfl | trivial)]), hbw⟩
            · refine wp_region_past (by kernel_rfl) (by kernel_rfl) ?_
              repeat (go_big_quiet_step (exact quiet_below (rOne_of true _ _ _ _ _ HX _)))
              refine wpQuiet_nil ?_
              rintro w4 ⟨⟨_, hx⟩, rfl⟩
              replace hb := below_in hb hx
              clear q0 q1 q2 r0 r1 r2 r3 r4
              go_wp2
              go_roundw
              case rel => exact ⟨1, by omega, by go_num, hid (by have := HS.out; simpa [hp.out] using this), hb⟩
              case measure => simp [intOf]; omega
          | succ t =>
            obtain ⟨m0, m1, -, -, -, ht'⟩ := hcell t (by omega)
            have hs2 : nextB qs (t + 1) = aheadB (qs[t]'(by omega)).l (qs[t]'(by omega)).c (qs[t + 1]'(by omega)).l (qs[t + 1]'(by omega)).c := by
              rw [nextB, Nat.add_sub_cancel, getD_at qs zQ (t + 1) (by omega), getD_at qs zQ t (by omega)]; rfl
            rw [hs2] at hs hf
            generalize qs[t]'(by omega) = z at m0 m1 ht' hs hf
            generalize qs[t + 1]'(by omega) = x at k0 k1 k2 k3 k4 ht hs hf
            obtain ⟨x0, x1, x2, x3, x4⟩ := x
            obtain ⟨z0, z1, z2, z3, z4⟩ := z
            have HT := hid ht.lab
            have HT' := hid ht'.lab
            generalize hx : quotaB ⟨x0, x1, x2, x3, x4⟩ = y at hs hf
            generalize ha : aheadB z0 z1 x0 x1 = v at hs hf
            (try dsimp only at k0 k1 k2 k3 k4 m0 m1 ha HT HT')
            have HS := hid hs
            have HF := hid hf
            have HX := hid hx
            have HA := hid ha
            have hlt3 : (t : Int) + 1 < (m : Int) := by omega
            have g1 : decide (0 < (t : Int) + 1) = true := decide_eq_true (by omega)
            have g2 : (t : Int) + 1 - 1 = (t : Int) := by omega
            have g3 : (t : Int) < (m : Int) := by omega
            have g4 : IntKind.i64.wrap (t : Int) = (t : Int) := by rw [IntKind.wrap_i64]; omega
            clear hs hf hx ha hcell hl ht ht' hs2 s0 s1 s2 hlt2
            go_wp2_with fail
            (have q0 := Past.all p0; have q1 := Past.all p1; have q2 := Past.all p2)
            (have r0 := Past.all k0; have r1 := Past.all k1; have r2 := Past.all k2; have r3 := Past.all k3; have r4 := Past.all k4)
            (have f0 := Past.all m0; have f1 := Past.all m1)
            cases y
            · refine wp_region_past (by kernel_rfl) (by kernel_rfl) ?_
              repeat (go_big_quiet_step (exact quiet_below (rOne_of false _ _ _ _ _ HX _)))
              refine wpQuiet_nil ?_
              rintro w4 ⟨⟨_, hx⟩, rfl⟩
              replace hbw := below_in hbw hx
              clear q0 q1 q2 r0 r1 r2 r3 r4 f0 f1
              go_wp2
              go_ret
              exact ⟨ret_bool (by rw [← hq.out, HF.out (by first | rfl | trivial)]), hbw⟩
            cases v
            · refine wp_region_past (by kernel_rfl) (by kernel_rfl) ?_
              repeat (go_big_quiet_step (first | exact quiet_below (rOne_of true _ _ _ _ _ HX _) | exact quiet_below (rAhead_of false _ _ _ _ HT'.out HT.out _ HA.out)))
              refine wpQuiet_nil ?_
              rintro w4 ⟨⟨_, hx⟩, rfl⟩
              replace hbw := below_in hbw hx
              clear q0 q1 q2 r0 r1 r2 r3 r4 f0 f1
              go_wp2
              go_ret
              exact ⟨ret_bool (by rw [← hq.out, HF.out (by first | rfl | trivial)]), hbw⟩
            · refine wp_region_past (by kernel_rfl) (by kernel_rfl) ?_
              repeat (go_big_quiet_step (first | exact quiet_below (rOne_of true _ _ _ _ _ HX _) | exact quiet_below (rAhead_of true _ _ _ _ HT'.out HT.out _ HA.out)))
              refine wpQuiet_nil ?_
              rintro w4 ⟨⟨_, hx⟩, rfl⟩
              replace hb := below_in hb hx
              clear q0 q1 q2 r0 r1 r2 r3 r4 f0 f1
              go_wp2
              go_roundw
              case rel => exact ⟨t + 1 + 1, by omega, by go_num, hid (by have := HS.out; simpa [hp.out] using this), hb⟩
              case measure => simp [intOf]; omega
        · obtain rfl : k = m := by omega
          have HK := hp
          clear hp hk hlt
          go_wp2_with fail
          clear p0 p1 p2
          go_loopw [5, 6] (fun x i wr => ∃ (t : Nat) (z : Int), t ≤ k ∧ i = .int .i64 (t : Int) ∧ x = .int .i64 z ∧ 0 ≤ z ∧ z ≤ t * 4096 ∧ Hid (z = smC qs t) ∧ Below W.heap.size W wr) (fun _ i _ => k - (intOf i).toNat)
          case atStart => exact ⟨0, 0, by omega, rfl, rfl, by omega, by omega, hid rfl, hb⟩
          case round =>
            obtain ⟨t, z, ht, rfl, rfl, hz0, hz1, hp, hb⟩ := hrel
            have hbw := below_in hbW hb
            (have p0 := keep hb s0; have p1 := keep hb s1; have p2 := keep hb s2)
            have hN := HN.out
            by_cases hlt : t < k
            · have hl := HP.out.hm
              obtain ⟨b, o, rfl, hcell⟩ := (HP.out.hq.keep hbw).at_ (by omega)
              obtain ⟨-, -, -, -, k4, -⟩ := hcell t (by omega)
              have hs : smC qs (t + 1) = smC qs t + (qs[t]'(by omega)).k := by rw [smC, getD_at qs zQ t (by omega)]
              have hr := quotaB_range (okQ_le HK.out hlt).1
              rw [getD_at qs zQ t (by omega)] at hr
              generalize (qs[t]'(by omega)).k = x at k4 hs hr
              have r4 := hr.2.2.1
              have r5 := hr.2.2.2
              have HS := hid (show z + x = smC qs (t + 1) by rw [hs, hp.out])
              have hlt2 : (t : Int) < (k : Int) := by omega
              have hw1 : IntKind.i64.wrap (z + x) = z + x := by rw [IntKind.wrap_i64]; omega
              clear hs hr hcell hl s0 s1 s2
              go_wp2
              go_roundw
              case rel => exact ⟨t + 1, z + x, by omega, by go_num, by first | rfl | simp [hw1], by omega, by omega, HS, hb⟩
              case measure => simp [intOf]; omega
            · obtain rfl : t = k := by omega
              generalize hv : g + smB qs t = v
              have HV := hid hv
              have HR := hid (show (decide (v ≤ 2048) && decide (z ≤ 8192)) = q by
                rw [← hq.out, right_sums (by rw [HP.out.hn]; omega) (by rw [HP.out.hm]; omega) ⟨by omega, by omega⟩ (by rw [HP.out.hn]; exact HU.out) (by rw [HP.out.hm]; exact HK.out), HP.out.hm, hv, hp.out])
              have hq8 : t ≤ 8 := by omega
              have hg0 : 0 ≤ g := by omega
              have hg1 : g ≤ 64 := by omega
              clear hv hN ht hlt hz0 hz1 hp s0 s1 s2
              go_wp2_with fail
              refine (rSum_of v A j c B t d g us qs hq8 hg0 hg1 HK HV _ (HP.out.keep hbw)).mono ?_
              rintro e w5 ⟨rfl, b5⟩
              replace hbw := below_in hbw b5
              clear b5 p0 p1 p2
              cases d1 : decide (v ≤ 2048)
              · have HW := hid (show q = false by rw [← HR.out, d1]; rfl)
                go_wp2
                go_ret
                exact ⟨ret_bool HW.out.symm, hbw⟩
              · have HW := hid (show decide (z ≤ 8192) = q by rw [← HR.out, d1]; rfl)
                go_wp2
                go_ret
                exact ⟨ret_bool HW.out, hbw⟩
end Go.Proofs.Ytbigppdaoakkfaa
