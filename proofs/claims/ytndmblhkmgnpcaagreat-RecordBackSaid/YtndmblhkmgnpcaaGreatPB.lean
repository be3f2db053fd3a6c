/-
  The check of a policy (stage 6).
-/
import Derived.Test.YtndmblhkmgnpcaaGreatPA
import Derived.BigRegion
import Derived.Deep.RegionHeld
namespace Go.Proofs.YtndmblhkmgnpcaaGreat
open Go.RowKit
set_option linter.unusedVariables false
set_option linter.unusedSimpArgs false

theorem count_any (n m : Int) (w : World) :
    Calls Tryz.prog 120 #[.int .i64 n, .int .i64 m] w fun e w' => e = .returned (.int .i64 (er (inR n m))) ∧ w = w' := by
  by_cases h : n < 0
  · have h1 : decide (n < 0) = true := by simpa using h
    have H := hid (show er (inR n m) = 8 by simp [er, inR]; omega)
    clear h
    go_enter Tryz.func120, Tryz.ntmps120
    go_wp2
    go_ret
    exact ⟨ret_int H.out.symm, rfl⟩
  · have h1 : decide (n < 0) = false := by simpa using h
    by_cases g : m < n
    · have h2 : decide (m < n) = true := by simpa using g
      have H := hid (show er (inR n m) = 8 by simp [er, inR]; omega)
      clear h g
      go_enter Tryz.func120, Tryz.ntmps120
      go_wp2
      go_ret
      exact ⟨ret_int H.out.symm, rfl⟩
    · have h2 : decide (m < n) = false := by simpa using g
      have H := hid (show er (inR n m) = 0 by rw [er, inR, if_pos (by simp; omega)])
      clear h g
      go_enter Tryz.func120, Tryz.ntmps120
      go_wp2
      go_ret
      exact ⟨ret_int H.out.symm, rfl⟩

theorem gath_drop {l : List Int} {j : Nat} (h : j < l.length) : gath (l.drop j) = if l[j] = 0 then gath (l.drop (j + 1)) else l[j] := by
  rw [List.drop_eq_getElem_cons h, gath]

set_option maxHeartbeats 400000 in
theorem gather_rd (z : Int) (A : Option Addr) (n c : Nat) (l : List Int) (hn : Hid (l.length = n)) (hz : Hid (gath l = z)) (w : World) (hr : RdE w A c l) :
    Calls Tryz.prog 117 #[.slice A n c] w fun e w' => e = .returned (.int .i64 z) ∧ w = w' := by
  have hc2 : (c : Int) ≤ 9223372036854775807 := by have := hr.cap; omega
  have hc1 : (n : Int) ≤ c := by have := hr.len; have := hn.out; omega
  have HR := hid hr
  clear hr
  go_enter Tryz.func117, Tryz.ntmps117
  go_wp2
  go_loop [4, 7] (fun x i => ∃ j : Nat, j ≤ n ∧ i = .int .i64 (j : Int) ∧ Hid (gath (l.drop j) = z)) (fun _ i => n - (intOf i).toNat)
  case atStart => exact ⟨0, by omega, rfl, hid (by simpa using hz.out)⟩
  case round =>
    obtain ⟨j, hj, rfl, hy⟩ := hrel
    by_cases hlt : j < n
    · have hl := hn.out
      obtain ⟨b, o, rfl, hcell⟩ := HR.out.at_ (by omega)
      have h1 := hcell j (by omega)
      have hs := gath_drop (l := l) (j := j) (by omega)
      generalize l[j]'(by omega) = d at h1 hs
      have hlt2 : (j : Int) < (n : Int) := by omega
      have HS := hid hs
      clear hs hcell hl
      by_cases hd : d = 0
      · subst hd
        go_wp2
        go_round
        case rel => exact ⟨j + 1, by omega, by go_num, hid (by rw [← hy.out, HS.out, if_pos rfl])⟩
        case measure => simp [intOf]; omega
      · have hd2 : (d != 0) = true := by simpa using hd
        have HD := hid hd
        clear hd
        go_wp2
        go_ret
        exact ⟨ret_int (by rw [← hy.out, HS.out, if_neg HD.out]), rfl⟩
    · have ej : gath (l.drop j) = 0 := by rw [List.drop_of_length_le (by have := hn.out; omega)]; rfl
      have hlt2 : ¬ (j : Int) < (n : Int) := by omega
      have HE := hid ej
      clear ej
      go_wp2
      go_ret
      exact ⟨ret_int (by rw [← hy.out, HE.out]), rfl⟩

/-- Of two, four, five that have just been laid side by side. -/
theorem gather2 (a b : Int) (w : World) :
    Calls Tryz.prog 117 #[.slice (some ⟨w.heap.size, 0, none⟩) 2 2] (w.alloc (.cells #[.int .i64 a, .int .i64 b] 34)) fun e w' => e = .returned (.int .i64 (gath [a, b])) ∧ w.alloc (.cells #[.int .i64 a, .int .i64 b] 34) = w' :=
  gather_rd (gath [a, b]) _ 2 2 [a, b] (hid rfl) (hid rfl) _ (lit_e w [a, b] (by simp))
theorem gather4 (a b c d : Int) (w : World) :
    Calls Tryz.prog 117 #[.slice (some ⟨w.heap.size, 0, none⟩) 4 4] (w.alloc (.cells #[.int .i64 a, .int .i64 b, .int .i64 c, .int .i64 d] 34)) fun e w' => e = .returned (.int .i64 (gath [a, b, c, d])) ∧ w.alloc (.cells #[.int .i64 a, .int .i64 b, .int .i64 c, .int .i64 d] 34) = w' :=
  gather_rd (gath [a, b, c, d]) _ 4 4 [a, b, c, d] (hid rfl) (hid rfl) _ (lit_e w [a, b, c, d] (by simp))
theorem gather5 (a b c d f : Int) (w : World) :
    Calls Tryz.prog 117 #[.slice (some ⟨w.heap.size, 0, none⟩) 5 5] (w.alloc (.cells #[.int .i64 a, .int .i64 b, .int .i64 c, .int .i64 d, .int .i64 f] 34)) fun e w' => e = .returned (.int .i64 (gath [a, b, c, d, f])) ∧ w.alloc (.cells #[.int .i64 a, .int .i64 b, .int .i64 c, .int .i64 d, .int .i64 f] 34) = w' :=
  gather_rd (gath [a, b, c, d, f]) _ 5 5 [a, b, c, d, f] (hid rfl) (hid rfl) _ (lit_e w [a, b, c, d, f] (by simp))

def sameC (l c : Int) (b : Bool) (l' c' : Int) (b' : Bool) : Bool := l == l' && c == c' && b == b'
def sameQ (l c o p k l' c' o' p' k' : Int) : Bool := l == l' && c == c' && o == o' && p == p' && k == k'
theorem stoodC : Tryz.prog.stoodInHeld 36 = false := by kernel_rfl
theorem stoodQ : Tryz.prog.stoodInHeld 190 = false := by kernel_rfl
theorem eql_clear (w : World) (a b a' b' : Int) (c c' : Bool) : (binOp .eql 36 (.agg #[.int .u8 a, .int .u32 b, .bool c]) (.agg #[.int .u8 a', .int .u32 b', .bool c'])).run Tryz.prog w = .ok (.bool (sameC a b c a' b' c')) w := by
  have e1 := stoodC
  unfold sameC
  by_cases h1 : a = a' <;> by_cases h2 : b = b' <;> cases c <;> cases c' <;> simp [go_sem, e1, h1, h2]
theorem neq_clear (w : World) (a b a' b' : Int) (c c' : Bool) : (binOp .neq 36 (.agg #[.int .u8 a, .int .u32 b, .bool c]) (.agg #[.int .u8 a', .int .u32 b', .bool c'])).run Tryz.prog w = .ok (.bool (!sameC a b c a' b' c')) w := by
  have e1 := stoodC
  unfold sameC
  by_cases h1 : a = a' <;> by_cases h2 : b = b' <;> cases c <;> cases c' <;> simp [go_sem, e1, h1, h2]
set_option maxHeartbeats 400000 in
theorem eql_quota (w : World) (a b c d m a' b' c' d' m' : Int) : (binOp .eql 190 (.agg #[.int .u8 a, .int .u32 b, .int .i64 c, .int .i64 d, .int .i64 m]) (.agg #[.int .u8 a', .int .u32 b', .int .i64 c', .int .i64 d', .int .i64 m'])).run Tryz.prog w = .ok (.bool (sameQ a b c d m a' b' c' d' m')) w := by
  have e1 := stoodQ
  unfold sameQ
  by_cases h1 : a = a' <;> by_cases h2 : b = b' <;> by_cases h3 : c = c' <;> by_cases h4 : d = d' <;> by_cases h5 : m = m' <;> simp [go_sem, e1, h1, h2, h3, h4, h5]
set_option maxHeartbeats 400000 in
theorem neq_quota (w : World) (a b c d m a' b' c' d' m' : Int) : (binOp .neq 190 (.agg #[.int .u8 a, .int .u32 b, .int .i64 c, .int .i64 d, .int .i64 m]) (.agg #[.int .u8 a', .int .u32 b', .int .i64 c', .int .i64 d', .int .i64 m'])).run Tryz.prog w = .ok (.bool (!sameQ a b c d m a' b' c' d' m')) w := by
  have e1 := stoodQ
  unfold sameQ
  by_cases h1 : a = a' <;> by_cases h2 : b = b' <;> by_cases h3 : c = c' <;> by_cases h4 : d = d' <;> by_cases h5 : m = m' <;> simp [go_sem, e1, h1, h2, h3, h4, h5]

set_option maxHeartbeats 400000 in
theorem clear_any (l c : Int) (b : Bool) (w : World) :
    Calls Tryz.prog 147 #[.agg #[.int .u8 l, .int .u32 c, .bool b]] w fun e w' => e = .returned (.int .i64 (er (clearB ⟨l, c, b⟩))) ∧ Below w.heap.size w w' := by
  have hE := neq_clear
  cases b
  · cases h : sameL l c 0 0
    · have h1 : sameC l c false 0 0 false = false := by simpa [sameC, sameL] using h
      have H := hid (show er (clearB ⟨l, c, false⟩) = 8 by simp [clearB, h, er])
      clear h
      go_enter Tryz.func147, Tryz.ntmps147
      go_wp2
      go_ret
      exact ⟨ret_int H.out.symm, by go_grown⟩
    · have h1 : sameC l c false 0 0 false = true := by simpa [sameC, sameL] using h
      have H := hid (show er (clearB ⟨l, c, false⟩) = er (mayL l) by simp [clearB, h])
      clear h
      go_enter Tryz.func147, Tryz.ntmps147
      go_wp2_with fail
      go_call check_any l c _ as e w1 ⟨rfl, b1⟩
      go_wp2
      go_ret
      exact ⟨ret_int H.out.symm, past_alloc b1⟩
  · have H := hid (show er (clearB ⟨l, c, true⟩) = er (mayL l) by simp [clearB])
    go_enter Tryz.func147, Tryz.ntmps147
    go_wp2_with fail
    go_call check_any l c _ as e w1 ⟨rfl, b1⟩
    go_wp2
    go_ret
    exact ⟨ret_int H.out.symm, past_alloc b1⟩
end Go.Proofs.YtndmblhkmgnpcaaGreat
namespace Go.Proofs.YtndmblhkmgnpcaaGreat
open Go.RowKit
set_option linter.unusedVariables false
set_option linter.unusedSimpArgs false

set_option maxRecDepth 100000 in
set_option maxHeartbeats 800000 in
theorem users_of (q : Bool) (A : Option Addr) (n c : Nat) (us : List Cl) (hn : Hid (us.length = n)) (hq : Hid (usersB us = q)) (w : World) (hr : RdC w A c us) :
    Calls Tryz.prog 118 #[.slice A n c] w fun e w' => e = .returned (.int .i64 (er q)) ∧ Below w.heap.size w w' := by
  have hc2 : (c : Int) ≤ 9223372036854775807 := by have := hr.cap; omega
  have hc1 : (n : Int) ≤ c := by have := hr.len; have := hn.out; omega
  have HR := hid hr
  have H0 := hid (show inR (n : Int) 8 = (decide (us.length ≤ 8) && okU us 0) by rw [hn.out, inR, okU, Bool.and_true, decide_eq_decide]; omega)
  clear hr
  go_enter Tryz.func118, Tryz.ntmps118
  go_wp2_with fail
  refine (count_any _ _ _).mono ?_
  rintro e w1 ⟨rfl, rfl⟩
  go_wp2_with fail
  go_loopw [3, 5, 11] (fun e x i wr => ∃ (j : Nat) (p : Bool), j ≤ n ∧ i = .int .i64 (j : Int) ∧ e = .int .i64 (er p) ∧ Hid (p = (decide (us.length ≤ 8) && okU us j)) ∧ Below w.heap.size w wr) (fun _ _ i _ => n - (intOf i).toNat)
  case atStart => exact ⟨0, _, by omega, rfl, rfl, H0, Below.refl _ _⟩
  case round =>
    obtain ⟨j, p, hj, rfl, rfl, hp, hb⟩ := hrel
    by_cases hlt : j < n
    · have hl := hn.out
      obtain ⟨b, o, rfl, hcell⟩ := (HR.out.keep hb).at_ (by omega)
      obtain ⟨k0, k1, k2, ht⟩ := hcell j (by omega)
      have hs : okU us (j + 1) = (okU us j && clearB (us[j]'(by omega))) := by rw [okU, getD_at us zC j (by omega)]
      generalize us[j]'(by omega) = x at k0 k1 k2 ht hs
      obtain ⟨x0, x1, x2⟩ := x
      have hlt2 : (j : Int) < (n : Int) := by omega
      have HS := hid hs
      clear hs hcell hl ht
      go_wp2_with fail
      go_call clear_any x0 x1 x2 _ as e w2 ⟨rfl, b2⟩
      replace hb := below_in hb (past_alloc b2)
      clear b2 k0 k1 k2
      go_wp2_with fail
      refine (gather2 _ _ _).mono ?_
      rintro e w3 ⟨rfl, rfl⟩
      go_wp2
      go_roundw
      case rel => exact ⟨j + 1, _, by omega, by go_num, by rw [gath2], hid (by rw [hp.out, HS.out, Bool.and_assoc]), hb.alloc hb.size _⟩
      case measure => simp [intOf]; omega
    · obtain rfl : j = n := by omega
      go_wp2
      go_ret
      exact ⟨ret_int (by rw [hp.out, ← hq.out, usersB, hn.out]), hb⟩

set_option maxRecDepth 100000 in
set_option maxHeartbeats 800000 in
theorem quota_any (l c o p k : Int) (w : World) :
    Calls Tryz.prog 148 #[.agg #[.int .u8 l, .int .u32 c, .int .i64 o, .int .i64 p, .int .i64 k]] w fun e w' => e = .returned (.int .i64 (er (quotaB ⟨l, c, o, p, k⟩))) ∧ Below w.heap.size w w' := by
  have HG := hid (show gath [er (mayL l), er (inR o 64), er (inR p 256), er (inR k 4096)] = er (quotaB ⟨l, c, o, p, k⟩) by rw [gath4]; rfl)
  go_enter Tryz.func148, Tryz.ntmps148
  go_wp2_with fail
  generalize hW : w.alloc _ = W
  have hbW : Below w.heap.size w W := by subst hW; go_grown
  (have s0 : W.cell? ⟨w.heap.size, 0, none⟩ = some (.int .u8 l) := ((by subst hW; simp [go_sem])); have s1 : W.cell? ⟨w.heap.size, 1, none⟩ = some (.int .u32 c) := ((by subst hW; simp [go_sem])); have s2 : W.cell? ⟨w.heap.size, 2, none⟩ = some (.int .i64 o) := ((by subst hW; simp [go_sem])); have s3 : W.cell? ⟨w.heap.size, 3, none⟩ = some (.int .i64 p) := ((by subst hW; simp [go_sem])); have s4 : W.cell? ⟨w.heap.size, 4, none⟩ = some (.int .i64 k) := ((by subst hW; simp [go_sem])))
  clear hW
  (have q0 := fun w' (h : Below W.heap.size W w') => keep h s0; have q1 := fun w' (h : Below W.heap.size W w') => keep h s1; have q2 := fun w' (h : Below W.heap.size W w') => keep h s2; have q3 := fun w' (h : Below W.heap.size W w') => keep h s3; have q4 := fun w' (h : Below W.heap.size W w') => keep h s4)
  have S0 : Below W.heap.size W W.drew := (Below.refl _ _).drew
  go_region_held (fun w' => Below W.heap.size W w') (with_reducible (first | assumption | exact Below.alloc (by assumption) (Below.size (by assumption)) _))
    (first
      | (go_at_call 86; refine (check_any _ _ _).mono ?_; rintro e w2 ⟨rfl, b2⟩; have c2 := below_in (w := W) (by assumption) b2)
      | (go_at_call 120; refine (count_any _ _ _).mono ?_; rintro e w2 ⟨rfl, rfl⟩)
      | (go_at_call 117; refine (gather4 _ _ _ _ _).mono ?_; rintro e w2 ⟨rfl, rfl⟩))
  have hb := below_in (w := w) hbW (by assumption)
  clear q0 q1 q2 q3 q4 s0 s1 s2 s3 s4 S0 c2 b2
  go_wp2
  go_ret
  exact ⟨ret_int HG.out, hb⟩
end Go.Proofs.YtndmblhkmgnpcaaGreat
namespace Go.Proofs.YtndmblhkmgnpcaaGreat
open Go.RowKit
set_option linter.unusedVariables false
set_option linter.unusedSimpArgs false

theorem ahead_of (b : Bool) (l c l' c' : Int) (w : World) (h : aheadB l c l' c' = b) :
    Calls Tryz.prog 149 #[.agg #[.int .u8 l, .int .u32 c], .agg #[.int .u8 l', .int .u32 c']] w fun e w' => e = .returned (.bool b) ∧ Below w.heap.size w w' := by subst h; exact ahead_any l c l' c' w
theorem gatherF (a : Bool) (w : World) :
    Calls Tryz.prog 117 #[.slice (some ⟨w.heap.size, 0, none⟩) 2 2] (w.alloc (.cells #[.int .i64 (er a), .int .i64 8] 34)) fun e w' => e = .returned (.int .i64 (er false)) ∧ w.alloc (.cells #[.int .i64 (er a), .int .i64 8] 34) = w' :=
  gather_rd (er false) _ 2 2 [er a, 8] (hid rfl) (hid (by cases a <;> rfl)) _ (lit_e w [er a, 8] (by simp))

set_option maxRecDepth 100000 in
set_option maxHeartbeats 1600000 in
theorem quotas_of (q : Bool) (A : Option Addr) (n c : Nat) (qs : List Qt) (hn : Hid (qs.length = n)) (hq : Hid (quotasB qs = q)) (w : World) (hr : RdQ w A c qs) :
    Calls Tryz.prog 119 #[.slice A n c] w fun e w' => e = .returned (.int .i64 (er q)) ∧ Below w.heap.size w w' := by
  have hc2 : (c : Int) ≤ 9223372036854775807 := by have := hr.cap; omega
  have hc1 : (n : Int) ≤ c := by have := hr.len; have := hn.out; omega
  have HR := hid hr
  have H0 := hid (show inR (n : Int) 8 = (decide (qs.length ≤ 8) && okQ qs 0) by rw [hn.out, inR, okQ, Bool.and_true, decide_eq_decide]; omega)
  clear hr
  go_enter Tryz.func119, Tryz.ntmps119
  go_wp2_with fail
  refine (count_any _ _ _).mono ?_
  rintro e w1 ⟨rfl, rfl⟩
  go_wp2_with fail
  go_loopw [3, 4, 5, 11] (fun e y x i wr => ∃ (j : Nat) (p : Bool), j ≤ n ∧ i = .int .i64 (j : Int) ∧ e = .int .i64 (er p) ∧ Hid (p = (decide (qs.length ≤ 8) && okQ qs j)) ∧ Below w.heap.size w wr) (fun _ _ _ i _ => n - (intOf i).toNat)
  case atStart => exact ⟨0, _, by omega, rfl, rfl, H0, Below.refl _ _⟩
  case round =>
    obtain ⟨j, p, hj, rfl, rfl, hp, hb⟩ := hrel
    by_cases hlt : j < n
    · have hl := hn.out
      obtain ⟨b, o, rfl, hcell⟩ := (HR.out.keep hb).at_ (by omega)
      obtain ⟨k0, k1, k2, k3, k4, ht⟩ := hcell j (by omega)
      have hs : okQ qs (j + 1) = (okQ qs j && (quotaB (qs[j]'(by omega)) && nextB qs j)) := by rw [okQ, getD_at qs zQ j (by omega)]
      cases j with
      | zero =>
        have hs2 : nextB qs 0 = true := rfl
        generalize qs[0]'(by omega) = x at k0 k1 k2 k3 k4 ht hs
        obtain ⟨x0, x1, x2, x3, x4⟩ := x
        rw [hs2, Bool.and_true] at hs
        simp only [Nat.zero_mul, Nat.add_zero] at k0 k1 k2 k3 k4
        have hlt2 : (0 : Int) < (n : Int) := by omega
        have HS := hid hs
        clear hs hcell hl ht hs2
        go_wp2_with fail
        go_call quota_any x0 x1 x2 x3 x4 _ as e w2 ⟨rfl, b2⟩
        (have s0 : w2.cell? ⟨wr.heap.size, 0, none⟩ = some (.int .u8 x0) := (keep b2 (by simp [go_sem])); have s1 : w2.cell? ⟨wr.heap.size, 1, none⟩ = some (.int .u32 x1) := (keep b2 (by simp [go_sem])); have s2 : w2.cell? ⟨wr.heap.size, 2, none⟩ = some (.int .i64 x2) := (keep b2 (by simp [go_sem])); have s3 : w2.cell? ⟨wr.heap.size, 3, none⟩ = some (.int .i64 x3) := (keep b2 (by simp [go_sem])); have s4 : w2.cell? ⟨wr.heap.size, 4, none⟩ = some (.int .i64 x4) := (keep b2 (by simp [go_sem])))
        replace hb := below_in hb (past_alloc b2)
        clear b2 k0 k1 k2 k3 k4
        go_wp2_with fail
        refine (gather2 _ _ _).mono ?_
        rintro e w3 ⟨rfl, rfl⟩
        generalize hW : w2.alloc _ = W
        replace hb : Below w.heap.size w W := by rw [← hW]; exact hb.alloc hb.size _
        (have t0 : W.cell? ⟨wr.heap.size, 0, none⟩ = some (.int .u8 x0) := ((by rw [← hW]; exact keepa (by assumption) _)); have t1 : W.cell? ⟨wr.heap.size, 1, none⟩ = some (.int .u32 x1) := ((by rw [← hW]; exact keepa (by assumption) _)); have t2 : W.cell? ⟨wr.heap.size, 2, none⟩ = some (.int .i64 x2) := ((by rw [← hW]; exact keepa (by assumption) _)); have t3 : W.cell? ⟨wr.heap.size, 3, none⟩ = some (.int .i64 x3) := ((by rw [← hW]; exact keepa (by assumption) _)); have t4 : W.cell? ⟨wr.heap.size, 4, none⟩ = some (.int .i64 x4) := ((by rw [← hW]; exact keepa (by assumption) _)))
        clear hW s0 s1 s2 s3 s4
        rw [gath2]
        go_wp2_with fail
        (have r0 := Past.all t0; have r1 := Past.all t1; have r2 := Past.all t2; have r3 := Past.all t3; have r4 := Past.all t4)
        refine wp_region_past (by kernel_rfl) (by kernel_rfl) ?_
        repeat (go_big_quiet_step (fail))
        refine wpQuiet_nil ?_
        rintro w4 ⟨⟨_, hx⟩, rfl⟩
        replace hb := below_in hb hx
        clear hx r0 r1 r2 r3 r4 t0 t1 t2 t3 t4
        go_wp2
        go_roundw
        case rel => exact ⟨1, _, by omega, by go_num, rfl, hid (by rw [hp.out, HS.out, Bool.and_assoc]), hb⟩
        case measure => simp [intOf]; omega
      | succ m =>
        obtain ⟨m0, m1, -⟩ := hcell m (by omega)
        have hs2 : nextB qs (m + 1) = aheadB (qs[m]'(by omega)).l (qs[m]'(by omega)).c (qs[m + 1]'(by omega)).l (qs[m + 1]'(by omega)).c := by
          rw [nextB, Nat.add_sub_cancel, getD_at qs zQ (m + 1) (by omega), getD_at qs zQ m (by omega)]; rfl
        rw [hs2] at hs
        generalize qs[m]'(by omega) = y at m0 m1 hs
        generalize qs[m + 1]'(by omega) = x at k0 k1 k2 k3 k4 ht hs
        obtain ⟨x0, x1, x2, x3, x4⟩ := x
        obtain ⟨y0, y1, y2, y3, y4⟩ := y
        have hlt2 : (m : Int) + 1 < (n : Int) := by omega
        have HS := hid hs
        clear hs hcell hl ht hs2
        go_wp2_with fail
        go_call quota_any x0 x1 x2 x3 x4 _ as e w2 ⟨rfl, b2⟩
        (have s0 : w2.cell? ⟨wr.heap.size, 0, none⟩ = some (.int .u8 x0) := (keep b2 (by simp [go_sem])); have s1 : w2.cell? ⟨wr.heap.size, 1, none⟩ = some (.int .u32 x1) := (keep b2 (by simp [go_sem])); have s2 : w2.cell? ⟨wr.heap.size, 2, none⟩ = some (.int .i64 x2) := (keep b2 (by simp [go_sem])); have s3 : w2.cell? ⟨wr.heap.size, 3, none⟩ = some (.int .i64 x3) := (keep b2 (by simp [go_sem])); have s4 : w2.cell? ⟨wr.heap.size, 4, none⟩ = some (.int .i64 x4) := (keep b2 (by simp [go_sem])))
        replace b2 := past_alloc b2
        replace m0 := keep b2 m0
        replace m1 := keep b2 m1
        replace hb := below_in hb b2
        clear b2 k0 k1 k2 k3 k4
        go_wp2_with fail
        refine (gather2 _ _ _).mono ?_
        rintro e w3 ⟨rfl, rfl⟩
        generalize hW : w2.alloc _ = W
        replace hb : Below w.heap.size w W := by rw [← hW]; exact hb.alloc hb.size _
        (have t0 : W.cell? ⟨wr.heap.size, 0, none⟩ = some (.int .u8 x0) := ((by rw [← hW]; exact keepa (by assumption) _)); have t1 : W.cell? ⟨wr.heap.size, 1, none⟩ = some (.int .u32 x1) := ((by rw [← hW]; exact keepa (by assumption) _)); have t2 : W.cell? ⟨wr.heap.size, 2, none⟩ = some (.int .i64 x2) := ((by rw [← hW]; exact keepa (by assumption) _)); have t3 : W.cell? ⟨wr.heap.size, 3, none⟩ = some (.int .i64 x3) := ((by rw [← hW]; exact keepa (by assumption) _)); have t4 : W.cell? ⟨wr.heap.size, 4, none⟩ = some (.int .i64 x4) := ((by rw [← hW]; exact keepa (by assumption) _)))
        replace m0 : W.cell? ⟨b, o + m * 5, none⟩ = some (.int .u8 y0) := by rw [← hW]; exact keepa m0 _
        replace m1 : W.cell? ⟨b, o + m * 5 + 1, none⟩ = some (.int .u32 y1) := by rw [← hW]; exact keepa m1 _
        clear hW s0 s1 s2 s3 s4
        rw [gath2]
        go_wp2_with fail
        (have r0 := Past.all t0; have r1 := Past.all t1; have r2 := Past.all t2; have r3 := Past.all t3; have r4 := Past.all t4)
        (have u0 := Past.all m0; have u1 := Past.all m1)
        have g1 : decide (0 < (m : Int) + 1) = true := decide_eq_true (by omega)
        have g2 : (m : Int) + 1 - 1 = (m : Int) := by omega
        have g3 : (m : Int) < (n : Int) := by omega
        have g4 : IntKind.i64.wrap (m : Int) = (m : Int) := by rw [IntKind.wrap_i64]; omega
        cases ha : aheadB y0 y1 x0 x1
        · have HA := hid ha
          rw [ha, Bool.and_false, Bool.and_false] at HS
          clear ha
          refine wp_region_past (by kernel_rfl) (by kernel_rfl) ?_
          repeat (go_big_quiet_step (exact quiet_below (ahead_of false _ _ _ _ _ HA.out)))
          refine wpQuiet_nil ?_
          rintro w4 ⟨⟨_, hx⟩, rfl⟩
          replace hb := below_in hb hx
          clear hx r0 r1 r2 r3 r4 t0 t1 t2 t3 t4 u0 u1 m0 m1 g1 g2 g3 g4
          go_wp2_with fail
          refine (gatherF _ _).mono ?_
          rintro e w5 ⟨rfl, rfl⟩
          go_wp2
          go_roundw
          case rel => exact ⟨m + 1 + 1, false, by omega, by go_num, rfl, hid (by rw [HS.out, Bool.and_false]), hb.alloc hb.size _⟩
          case measure => simp [intOf]; omega
        · have HA := hid ha
          rw [ha, Bool.and_true] at HS
          clear ha
          refine wp_region_past (by kernel_rfl) (by kernel_rfl) ?_
          repeat (go_big_quiet_step (exact quiet_below (ahead_of true _ _ _ _ _ HA.out)))
          refine wpQuiet_nil ?_
          rintro w4 ⟨⟨_, hx⟩, rfl⟩
          replace hb := below_in hb hx
          clear hx r0 r1 r2 r3 r4 t0 t1 t2 t3 t4 u0 u1 m0 m1 g1 g2 g3 g4
          go_wp2
          go_roundw
          case rel => exact ⟨m + 1 + 1, _, by omega, by go_num, rfl, hid (by rw [hp.out, HS.out, Bool.and_assoc]), hb⟩
          case measure => simp [intOf]; omega
    · obtain rfl : j = n := by omega
      go_wp2
      go_ret
      exact ⟨ret_int (by rw [hp.out, ← hq.out, quotasB, hn.out]), hb⟩
end Go.Proofs.YtndmblhkmgnpcaaGreat
namespace Go.Proofs.YtndmblhkmgnpcaaGreat
open Go.RowKit
set_option linter.unusedVariables false
set_option linter.unusedSimpArgs false

theorem blocksOf_any (l c o p k : Int) (w : World) :
    Calls Tryz.prog 150 #[.agg #[.int .u8 l, .int .u32 c, .int .i64 o, .int .i64 p, .int .i64 k]] w fun e w' => e = .returned (.int .i64 (wB ⟨l, c, o, p, k⟩)) ∧ Below w.heap.size w w' := by
  go_enter Tryz.func150, Tryz.ntmps150
  go_wp2
  go_ret
  exact ⟨by simp [wB, IntKind.wrap_i64], by go_grown⟩
theorem cellsOf_any (l c o p k : Int) (w : World) :
    Calls Tryz.prog 123 #[.agg #[.int .u8 l, .int .u32 c, .int .i64 o, .int .i64 p, .int .i64 k]] w fun e w' => e = .returned (.int .i64 (wC ⟨l, c, o, p, k⟩)) ∧ Below w.heap.size w w' := by
  go_enter Tryz.func123, Tryz.ntmps123
  go_wp2
  go_ret
  exact ⟨rfl, by go_grown⟩

set_option maxRecDepth 100000 in
set_option maxHeartbeats 800000 in
theorem sumB_any (A : Option Addr) (n c : Nat) (qs : List Qt) (hn : Hid (qs.length = n)) (w : World) (hr : RdQ w A c qs) :
    Calls Tryz.prog 122 #[.slice A n c, .func (.func 150) #[] #[]] w fun e w' => e = .returned (.int .i64 (smW wB qs n)) ∧ Below w.heap.size w w' := by
  have hc2 : (c : Int) ≤ 9223372036854775807 := by have := hr.cap; omega
  have hc1 : (n : Int) ≤ c := by have := hr.len; have := hn.out; omega
  have HR := hid hr
  clear hr
  go_enter Tryz.func122, Tryz.ntmps122
  go_wp2
  go_loopw [5, 7, 10] (fun e x i wr => ∃ (j : Nat) (z : Int), j ≤ n ∧ i = .int .i64 (j : Int) ∧ e = .int .i64 z ∧ Hid (z = smW wB qs j) ∧ Below w.heap.size w wr) (fun _ _ i _ => n - (intOf i).toNat)
  case atStart => exact ⟨0, 0, by omega, rfl, rfl, hid rfl, Below.refl _ _⟩
  case round =>
    obtain ⟨j, z, hj, rfl, rfl, hp, hb⟩ := hrel
    by_cases hlt : j < n
    · have hl := hn.out
      obtain ⟨b, o, rfl, hcell⟩ := (HR.out.keep hb).at_ (by omega)
      obtain ⟨k0, k1, k2, k3, k4, ht⟩ := hcell j (by omega)
      have hs : smW wB qs (j + 1) = wrap64 (smW wB qs j + wB (qs[j]'(by omega))) := by rw [smW, getD_at qs zQ j (by omega)]
      generalize qs[j]'(by omega) = x at k0 k1 k2 k3 k4 ht hs
      obtain ⟨x0, x1, x2, x3, x4⟩ := x
      have hlt2 : (j : Int) < (n : Int) := by omega
      generalize hv : wB ⟨x0, x1, x2, x3, x4⟩ = v at hs
      have HS := hid hs
      have HV := hid hv
      clear hs hcell hl ht hv
      go_wp2_with fail
      go_call blocksOf_any x0 x1 x2 x3 x4 _ as e w2 ⟨rfl, b2⟩
      rw [HV.out]
      replace hb := below_in hb (past_alloc b2)
      clear b2 k0 k1 k2 k3 k4
      go_wp2
      go_roundw
      case rel => exact ⟨j + 1, _, by omega, by go_num, rfl, hid (by rw [HS.out, hp.out]; try rfl), hb⟩
      case measure => simp [intOf]; omega
    · obtain rfl : j = n := by omega
      go_wp2
      go_ret
      exact ⟨ret_int (by rw [hp.out]), hb⟩

set_option maxRecDepth 100000 in
set_option maxHeartbeats 800000 in
theorem sumC_any (A : Option Addr) (n c : Nat) (qs : List Qt) (hn : Hid (qs.length = n)) (w : World) (hr : RdQ w A c qs) :
    Calls Tryz.prog 122 #[.slice A n c, .func (.func 123) #[] #[]] w fun e w' => e = .returned (.int .i64 (smW wC qs n)) ∧ Below w.heap.size w w' := by
  have hc2 : (c : Int) ≤ 9223372036854775807 := by have := hr.cap; omega
  have hc1 : (n : Int) ≤ c := by have := hr.len; have := hn.out; omega
  have HR := hid hr
  clear hr
  go_enter Tryz.func122, Tryz.ntmps122
  go_wp2
  go_loopw [5, 7, 10] (fun e x i wr => ∃ (j : Nat) (z : Int), j ≤ n ∧ i = .int .i64 (j : Int) ∧ e = .int .i64 z ∧ Hid (z = smW wC qs j) ∧ Below w.heap.size w wr) (fun _ _ i _ => n - (intOf i).toNat)
  case atStart => exact ⟨0, 0, by omega, rfl, rfl, hid rfl, Below.refl _ _⟩
  case round =>
    obtain ⟨j, z, hj, rfl, rfl, hp, hb⟩ := hrel
    by_cases hlt : j < n
    · have hl := hn.out
      obtain ⟨b, o, rfl, hcell⟩ := (HR.out.keep hb).at_ (by omega)
      obtain ⟨k0, k1, k2, k3, k4, ht⟩ := hcell j (by omega)
      have hs : smW wC qs (j + 1) = wrap64 (smW wC qs j + wC (qs[j]'(by omega))) := by rw [smW, getD_at qs zQ j (by omega)]
      generalize qs[j]'(by omega) = x at k0 k1 k2 k3 k4 ht hs
      obtain ⟨x0, x1, x2, x3, x4⟩ := x
      have hlt2 : (j : Int) < (n : Int) := by omega
      generalize hv : wC ⟨x0, x1, x2, x3, x4⟩ = v at hs
      have HS := hid hs
      have HV := hid hv
      clear hs hcell hl ht hv
      go_wp2_with fail
      go_call cellsOf_any x0 x1 x2 x3 x4 _ as e w2 ⟨rfl, b2⟩
      rw [HV.out]
      replace hb := below_in hb (past_alloc b2)
      clear b2 k0 k1 k2 k3 k4
      go_wp2
      go_roundw
      case rel => exact ⟨j + 1, _, by omega, by go_num, rfl, hid (by rw [HS.out, hp.out]; try rfl), hb⟩
      case measure => simp [intOf]; omega
    · obtain rfl : j = n := by omega
      go_wp2
      go_ret
      exact ⟨ret_int (by rw [hp.out]), hb⟩

theorem sumB_of (v : Int) (A : Option Addr) (n c : Nat) (qs : List Qt) (hn : Hid (qs.length = n)) (hv : Hid (smW wB qs n = v)) (w : World) (hr : RdQ w A c qs) :
    Calls Tryz.prog 122 #[.slice A n c, .func (.func 150) #[] #[]] w fun e w' => e = .returned (.int .i64 v) ∧ Below w.heap.size w w' := by rw [← hv.out]; exact sumB_any A n c qs hn w hr
set_option maxRecDepth 100000 in
set_option maxHeartbeats 800000 in
theorem blocks_any (A : Option Addr) (n c : Nat) (B : Option Addr) (m d : Nat) (g : Int) (us : List Cl) (qs : List Qt) (w : World) (hp : Pol w A n c B m d g us qs) :
    Calls Tryz.prog 121 #[.agg #[.slice A n c, .slice B m d, .int .i64 g]] w fun e w' => e = .returned (.int .i64 (wrap64 (g + smW wB qs m))) ∧ Below w.heap.size w w' := by
  have HP := hid hp
  clear hp
  generalize hv : smW wB qs m = v
  have HV := hid hv
  clear hv
  go_enter Tryz.func121, Tryz.ntmps121
  go_wp2_with fail
  generalize hW : w.alloc _ = W
  have hbW : Below w.heap.size w W := by subst hW; go_grown
  (have s0 : W.cell? ⟨w.heap.size, 0, none⟩ = some (.slice A n c) := ((by subst hW; simp [go_sem])); have s1 : W.cell? ⟨w.heap.size, 1, none⟩ = some (.slice B m d) := ((by subst hW; simp [go_sem])); have s2 : W.cell? ⟨w.heap.size, 2, none⟩ = some (.int .i64 g) := ((by subst hW; simp [go_sem])))
  clear hW
  (have q0 := Past.all s0; have q1 := Past.all s1; have q2 := Past.all s2)
  refine wp_region_past (by kernel_rfl) (by kernel_rfl) ?_
  repeat (go_big_quiet_step (exact quiet_below (sumB_of _ B m d qs (hid HP.out.hm) HV _ (HP.out.hq.keep (by first | assumption | exact below_in hbW (Subtype.property _))))))
  refine wpQuiet_nil ?_
  rintro w4 ⟨⟨_, hx⟩, rfl⟩
  go_wp2
  go_ret
  exact ⟨rfl, below_in hbW hx⟩
theorem blocks_of (v : Int) (A : Option Addr) (n c : Nat) (B : Option Addr) (m d : Nat) (g : Int) (us : List Cl) (qs : List Qt) (hv : Hid (smW wB qs m = v)) (w : World) (hp : Pol w A n c B m d g us qs) :
    Calls Tryz.prog 121 #[.agg #[.slice A n c, .slice B m d, .int .i64 g]] w fun e w' => e = .returned (.int .i64 (wrap64 (g + v))) ∧ Below w.heap.size w w' := by rw [← hv.out]; exact blocks_any A n c B m d g us qs w hp
theorem sumC_of (v : Int) (A : Option Addr) (n c : Nat) (qs : List Qt) (hn : Hid (qs.length = n)) (hv : Hid (smW wC qs n = v)) (w : World) (hr : RdQ w A c qs) :
    Calls Tryz.prog 122 #[.slice A n c, .func (.func 123) #[] #[]] w fun e w' => e = .returned (.int .i64 v) ∧ Below w.heap.size w w' := by rw [← hv.out]; exact sumC_any A n c qs hn w hr
end Go.Proofs.YtndmblhkmgnpcaaGreat
namespace Go.Proofs.YtndmblhkmgnpcaaGreat
open Go.RowKit
set_option linter.unusedVariables false
set_option linter.unusedSimpArgs false

set_option maxRecDepth 100000 in
set_option maxHeartbeats 2000000 in
theorem pcheck_of (q : Bool) (A : Option Addr) (n c : Nat) (B : Option Addr) (m d : Nat) (g : Int) (us : List Cl) (qs : List Qt) (hq : Hid (rightB us qs g = q)) (w : World) (hp : Pol w A n c B m d g us qs) :
    Calls Tryz.prog 90 #[.agg #[.slice A n c, .slice B m d, .int .i64 g]] w fun e w' => e = .returned (.int .i64 (er q)) ∧ Below w.heap.size w w' := by
  have HG := right_gath us qs g
  rw [hp.hm, hq.out] at HG
  generalize hv : smW wB qs m = v at HG
  generalize hu : smW wC qs m = u at HG
  have HG' := hid HG
  have HV := hid hv
  have HU := hid hu
  have HP := hid hp
  clear hp HG hv hu
  generalize hbu : usersB us = bu
  generalize hbq : quotasB qs = bq
  have HBU := hid hbu
  have HBQ := hid hbq
  clear hbu hbq
  go_enter Tryz.func90, Tryz.ntmps90
  go_wp2_with fail
  generalize hW : w.alloc _ = W
  have hbW : Below w.heap.size w W := by subst hW; go_grown
  (have s0 : W.cell? ⟨w.heap.size, 0, none⟩ = some (.slice A n c) := ((by subst hW; simp [go_sem])); have s1 : W.cell? ⟨w.heap.size, 1, none⟩ = some (.slice B m d) := ((by subst hW; simp [go_sem])); have s2 : W.cell? ⟨w.heap.size, 2, none⟩ = some (.int .i64 g) := ((by subst hW; simp [go_sem])))
  clear hW
  (have q0 := fun w' (h : Below W.heap.size W w') => keep h s0; have q1 := fun w' (h : Below W.heap.size W w') => keep h s1; have q2 := fun w' (h : Below W.heap.size W w') => keep h s2)
  have S0 : Below W.heap.size W W.drew := (Below.refl _ _).drew
  have HPW := hid (HP.out.keep hbW)
  go_region_held (fun w' => Below W.heap.size W w') (with_reducible (first | assumption | exact Below.alloc (by assumption) (Below.size (by assumption)) _))
    (first
      | (go_at_call 118; refine (users_of _ A n c us (hid HPW.out.hn) HBU _ (HPW.out.hu.keep (by assumption))).mono ?_; rintro e w2 ⟨rfl, b2⟩; have c2 := below_in (w := W) (by assumption) b2)
      | (go_at_call 119; refine (quotas_of _ B m d qs (hid HPW.out.hm) HBQ _ (HPW.out.hq.keep (by assumption))).mono ?_; rintro e w2 ⟨rfl, b2⟩; have c2 := below_in (w := W) (by assumption) b2)
      | (go_at_call 120; refine (count_any _ _ _).mono ?_; rintro e w2 ⟨rfl, rfl⟩)
      | (go_at_call 121; refine (blocks_of v A n c B m d g us qs HV _ (HPW.out.keep (by assumption))).mono ?_; rintro e w2 ⟨rfl, b2⟩; have c2 := below_in (w := W) (by assumption) b2)
      | (go_at_call 122; refine (sumC_of u B m d qs (hid HPW.out.hm) HU _ (HPW.out.hq.keep (by assumption))).mono ?_; rintro e w2 ⟨rfl, b2⟩; have c2 := below_in (w := W) (by assumption) b2)
      | (go_at_call 117; refine (gather5 _ _ _ _ _ _).mono ?_; rintro e w2 ⟨rfl, rfl⟩))
  have hb := below_in (w := w) hbW (by assumption)
  clear q0 q1 q2 s0 s1 s2 S0
  go_wp2
  go_ret
  exact ⟨ret_int (by rw [← HG'.out, HBU.out, HBQ.out]), hb⟩

end Go.Proofs.YtndmblhkmgnpcaaGreat
