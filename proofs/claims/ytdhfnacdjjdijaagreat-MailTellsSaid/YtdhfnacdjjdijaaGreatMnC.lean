/-
  The document's own answer of layer 10: whether mail may be.
-/
import Derived.Test.YtdhfnacdjjdijaaGreatMnB
import Derived.Test.YtdhfnacdjjdijaaGreatMlV
namespace Go.Proofs.YtdhfnacdjjdijaaGreat
open Go.RowKit
set_option linter.unusedVariables false
set_option linter.unusedSimpArgs false

theorem rbare_any (m : Mld) (hk : isK m.kd = true) (A : Option Addr) (n c : Nat) (hn : Hid (m.ops.length = n)) : ∃ A' n' c', Hid ((bareM m).ops.length = n') ∧ (∀ w, RdO w A c m.ops → RdO w A' c' (bareM m).ops) ∧
    ∀ w, Calls Tryz.prog 47 #[.agg #[.int .u8 m.kd, .int .i64 m.us, .int .i64 m.se, .int .i64 m.co, .int .i64 m.fr, .int .i64 m.tt, .int .u8 m.ak, .int .i64 m.t0, .int .i64 m.t1, .int .i64 m.t2, .int .i64 m.t3, .slice A n c]] w fun e w' => e = .returned (.agg #[.int .u8 (bareM m).kd, .int .i64 (bareM m).us, .int .i64 (bareM m).se, .int .i64 (bareM m).co, .int .i64 (bareM m).fr, .int .i64 (bareM m).tt, .int .u8 (bareM m).ak, .int .i64 (bareM m).t0, .int .i64 (bareM m).t1, .int .i64 (bareM m).t2, .int .i64 (bareM m).t3, .slice A' n' c']) ∧ Below w.heap.size w w' := by
  obtain ⟨k, us, se, co, fr, tt, ak, t0, t1, t2, t3, ops⟩ := m
  have hn' : Hid (ops.length = n) := hn
  rcases isK_iff.1 hk with h | h | h | h | h | h | h | h | h | h
  · obtain rfl : k = 1 := h
    exact ⟨A, n, c, hn', fun _ h => h, fun w => rbare_1 us se co fr tt ak t0 t1 t2 t3 A n c w⟩
  · obtain rfl : k = 2 := h
    exact ⟨none, 0, 0, hid rfl, fun w _ => RdO.nil w, fun w => rbare_2 us se co fr tt ak t0 t1 t2 t3 A n c w⟩
  · obtain rfl : k = 3 := h
    exact ⟨A, n, c, hn', fun _ h => h, fun w => rbare_3 us se co fr tt ak t0 t1 t2 t3 A n c w⟩
  · obtain rfl : k = 4 := h
    exact ⟨A, n, c, hn', fun _ h => h, fun w => rbare_4 us se co fr tt ak t0 t1 t2 t3 A n c w⟩
  · obtain rfl : k = 5 := h
    exact ⟨A, n, c, hn', fun _ h => h, fun w => rbare_5 us se co fr tt ak t0 t1 t2 t3 A n c w⟩
  · obtain rfl : k = 6 := h
    exact ⟨A, n, c, hn', fun _ h => h, fun w => rbare_6 us se co fr tt ak t0 t1 t2 t3 A n c w⟩
  · obtain rfl : k = 7 := h
    exact ⟨A, n, c, hn', fun _ h => h, fun w => rbare_7 us se co fr tt ak t0 t1 t2 t3 A n c w⟩
  · obtain rfl : k = 8 := h
    exact ⟨none, 0, 0, hid rfl, fun w _ => RdO.nil w, fun w => rbare_8 us se co fr tt ak t0 t1 t2 t3 A n c w⟩
  · obtain rfl : k = 9 := h
    exact ⟨A, n, c, hn', fun _ h => h, fun w => rbare_9 us se co fr tt ak t0 t1 t2 t3 A n c w⟩
  · obtain rfl : k = 10 := h
    exact ⟨A, n, c, hn', fun _ h => h, fun w => rbare_10 us se co fr tt ak t0 t1 t2 t3 A n c w⟩

set_option maxRecDepth 100000 in
set_option maxHeartbeats 6400000 in
theorem rmmay_of (q : Bool) (m : Mld) (A : Option Addr) (n c : Nat) (hn : Hid (m.ops.length = n)) (hmr : Mlr m) (hq : Hid (mayM m = q)) (w : World) (hr : RdO w A c m.ops) :
    Calls Tryz.prog 28 #[.agg #[.int .u8 m.kd, .int .i64 m.us, .int .i64 m.se, .int .i64 m.co, .int .i64 m.fr, .int .i64 m.tt, .int .u8 m.ak, .int .i64 m.t0, .int .i64 m.t1, .int .i64 m.t2, .int .i64 m.t3, .slice A n c]] w fun e w' => e = .returned (.bool q) ∧ Below w.heap.size w w' := by
  have hc2 : (c : Int) ≤ 9223372036854775807 := by have := hr.cap; omega
  have hc1 : (n : Int) ≤ c := by have := hr.len; have := hn.out; omega
  have hq' : rmayB m = q := by rw [rmay_eq]; exact hq.out
  clear hq
  have bx := boxM_new w m A n c 27
  have hbW : Below w.heap.size w (w.alloc (.cells (#[.int .u8 m.kd, .int .i64 m.us, .int .i64 m.se, .int .i64 m.co, .int .i64 m.fr, .int .i64 m.tt, .int .u8 m.ak, .int .i64 m.t0, .int .i64 m.t1, .int .i64 m.t2, .int .i64 m.t3, .slice A n c]) 27)) := (Below.refl _ _).alloc (Nat.le_refl _) _
  have HR := hid (hr.keep hbW)
  clear hr
  cases hk : isK m.kd
  · have HQ := hid (show false = q by rw [← hq', rmayB, hk]; rfl)
    have hk' : ¬ (1 ≤ m.kd ∧ m.kd ≤ 10) := fun ⟨h1, h2⟩ => by
      rw [isK, decide_eq_true h1, decide_eq_true h2] at hk
      cases hk
    clear hk hq' HR
    by_cases h1 : m.kd < 1
    · have d1 : decide (m.kd < 1) = true := decide_eq_true h1
      clear hk'
      go_enter Tryz.func28, Tryz.ntmps28
      go_wp2_with fail
      generalize World.alloc w _ = W at bx hbW ⊢
      have s0 := bx.c0
      have p0 := Past.all s0
      refine wp_region_past (by kernel_rfl) (by kernel_rfl) ?_
      repeat (go_big_quiet_step (fail))
      refine wpQuiet_nil ?_
      intro _ hw'
      obtain ⟨x3, rfl⟩ := hw'
      have hb3 := below_in hbW x3.2
      clear p0 s0
      generalize x3.1 = w3 at *
      go_wp2
      go_ret
      exact ⟨ret_bool HQ.out, hb3⟩
    · have d1 : decide (m.kd < 1) = false := decide_eq_false h1
      have d2 : decide (10 < m.kd) = true := decide_eq_true (by omega)
      clear hk'
      go_enter Tryz.func28, Tryz.ntmps28
      go_wp2_with fail
      generalize World.alloc w _ = W at bx hbW ⊢
      have s0 := bx.c0
      have p0 := Past.all s0
      refine wp_region_past (by kernel_rfl) (by kernel_rfl) ?_
      repeat (go_big_quiet_step (fail))
      refine wpQuiet_nil ?_
      intro _ hw'
      obtain ⟨x3, rfl⟩ := hw'
      have hb3 := below_in hbW x3.2
      clear p0 s0
      generalize x3.1 = w3 at *
      go_wp2
      go_ret
      exact ⟨ret_bool HQ.out, hb3⟩
  · obtain ⟨A', n', c', hn', hrd, hcall⟩ := rbare_any m hk A n c hn
    obtain ⟨u, hu⟩ : ∃ u, sameM (bareM m) { zM with kd := m.kd } = u := ⟨_, rfl⟩
    have HU := hid hu
    obtain ⟨a0, ha0⟩ : ∃ u, decide (0 ≤ m.us) = u := ⟨_, rfl⟩
    obtain ⟨a1, ha1⟩ : ∃ u, decide (m.us ≤ 255) = u := ⟨_, rfl⟩
    obtain ⟨k1, hk1⟩ : ∃ u, countB m.se = u := ⟨_, rfl⟩
    obtain ⟨b0, hb0⟩ : ∃ u, decide (0 ≤ m.co) = u := ⟨_, rfl⟩
    obtain ⟨b1, hb1⟩ : ∃ u, decide (m.co < 65536) = u := ⟨_, rfl⟩
    obtain ⟨k2, hk2⟩ : ∃ u, countB m.fr = u := ⟨_, rfl⟩
    obtain ⟨k3, hk3⟩ : ∃ u, countB m.tt = u := ⟨_, rfl⟩
    obtain ⟨k4, hk4⟩ : ∃ u, (countB m.t0 && countB m.t1 && countB m.t2 && countB m.t3) = u := ⟨_, rfl⟩
    obtain ⟨k5, hk5⟩ : ∃ u, opsL m.ops = u := ⟨_, rfl⟩
    have HQ := hid (show (u && (a0 && (a1 && (k1 && (b0 && (b1 && (k2 && (k3 && (k4 && (k5 && lastB m)))))))))) = q by
      rw [← hq', rmayB, numB, hk, hu, ha0, ha1, hk1, codeB, hb0, hb1, hk2, hk3, hk4, hk5]
      simp only [Bool.true_and, Bool.and_assoc])
    have d1 : decide (m.kd < 1) = false := decide_eq_false (by have := isK_iff.1 hk; omega)
    have d2 : decide (10 < m.kd) = false := decide_eq_false (by have := isK_iff.1 hk; omega)
    have e0 : decide (m.us < 0) = !a0 := by rw [← ha0, ← decide_not, decide_eq_decide]; omega
    have e1 : decide (255 < m.us) = !a1 := by rw [← ha1, ← decide_not, decide_eq_decide]; omega
    have e2 : decide (m.co < 0) = !b0 := by rw [← hb0, ← decide_not, decide_eq_decide]; omega
    have e3 : decide (65536 ≤ m.co) = !b1 := by rw [← hb1, ← decide_not, decide_eq_decide]; omega
    have K1 := hid hk1
    have K2 := hid hk2
    have K3 := hid hk3
    have K4 := hid hk4
    have K5 := hid hk5
    have HRD := hid hrd
    clear hq' hk hu ha0 ha1 hk1 hb0 hb1 hk2 hk3 hk4 hk5 hrd
    go_enter Tryz.func28, Tryz.ntmps28
    go_wp2_with fail
    generalize World.alloc w _ = W at bx hbW HR ⊢
    have s0 := bx.c0
    have p0 := Past.all s0
    refine wp_region_past (by kernel_rfl) (by kernel_rfl) ?_
    iterate 9 (go_big_quiet_step (fail))
    refine quiet_load_m (by rfl) (.tmp 1) rfl w.heap.size rfl bx.past ?_
    (try simp only [Act.put, List.setIfInBounds_toArray, List.set_cons_zero, List.set_cons_succ])
    go_big_quiet_step (exact quiet_below (hcall _))
    go_big_quiet_step (fail)
    go_big_quiet_step (fail)
    go_big_quiet_step (fail)
    go_big_quiet_step (exact quiet_below (rmsame_of u (bareM m) A' n' c' hn' { zM with kd := m.kd } none 0 0 (hid rfl) HU _ (HRD.out _ (HR.out.keep (Subtype.property _))) (RdO.nil _)))
    repeat (go_big_quiet_step (fail))
    refine wpQuiet_nil ?_
    intro _ hw'
    obtain ⟨x3, rfl⟩ := hw'
    have hb3 := below_in hbW x3.2
    have bx3 := bx.keep x3.2
    have HR3 := hid (HR.out.keep x3.2)
    clear p0 s0 hcall HRD HR bx
    generalize x3.1 = w3 at *
    have bxk := bx3
    obtain ⟨s0, s1, s2, s3, s4, s5, s6, s7, s8, s9, s10, s11⟩ := bx3
    cases u
    · go_wp2
      go_ret
      exact ⟨ret_bool HQ.out, hb3⟩
    cases a0
    · replace e0 : decide (m.us < 0) = true := e0
      go_wp2_with (first
        | (go_at_call 48; refine (rcount_of _ _ (by assumption) _).mono ?_; rintro e w' ⟨rfl, rfl⟩))
      go_ret
      exact ⟨ret_bool HQ.out, hb3⟩
    replace e0 : decide (m.us < 0) = false := e0
    cases a1
    · replace e1 : decide (255 < m.us) = true := e1
      go_wp2_with (first
        | (go_at_call 48; refine (rcount_of _ _ (by assumption) _).mono ?_; rintro e w' ⟨rfl, rfl⟩))
      go_ret
      exact ⟨ret_bool HQ.out, hb3⟩
    replace e1 : decide (255 < m.us) = false := e1
    cases k1
    · go_wp2_with (first
        | (go_at_call 48; refine (rcount_of _ _ (by assumption) _).mono ?_; rintro e w' ⟨rfl, rfl⟩))
      go_ret
      exact ⟨ret_bool HQ.out, hb3⟩
    cases b0
    · replace e2 : decide (m.co < 0) = true := e2
      go_wp2_with (first
        | (go_at_call 48; refine (rcount_of _ _ (by assumption) _).mono ?_; rintro e w' ⟨rfl, rfl⟩))
      go_ret
      exact ⟨ret_bool HQ.out, hb3⟩
    replace e2 : decide (m.co < 0) = false := e2
    cases b1
    · replace e3 : decide (65536 ≤ m.co) = true := e3
      go_wp2_with (first
        | (go_at_call 48; refine (rcount_of _ _ (by assumption) _).mono ?_; rintro e w' ⟨rfl, rfl⟩))
      go_ret
      exact ⟨ret_bool HQ.out, hb3⟩
    replace e3 : decide (65536 ≤ m.co) = false := e3
    cases k2
    · go_wp2_with (first
        | (go_at_call 48; refine (rcount_of _ _ (by assumption) _).mono ?_; rintro e w' ⟨rfl, rfl⟩))
      go_ret
      exact ⟨ret_bool HQ.out, hb3⟩
    cases k3
    · go_wp2_with (first
        | (go_at_call 48; refine (rcount_of _ _ (by assumption) _).mono ?_; rintro e w' ⟨rfl, rfl⟩))
      go_ret
      exact ⟨ret_bool HQ.out, hb3⟩
    cases k4
    · have one : True := trivial
      go_wp2_with (first
        | (go_at_call 48; refine (rcount_of _ _ (by assumption) _).mono ?_; rintro e w' ⟨rfl, rfl⟩)
        | (clear one; refine wpList_load_t rfl (.tmp 57) rfl w.heap.size rfl bxk ?_)
        | (go_at_call 49; refine (rtold_of _ _ _ _ _ K4 _).mono ?_; rintro e w4 ⟨rfl, b4⟩; have bx4 := bxk.keep b4; have hb4 := below_in hb3 b4; have s11 := bx4.c11))
      go_ret
      exact ⟨ret_bool HQ.out, hb4⟩
    cases k5
    · have one : True := trivial
      go_wp2_with (first
        | (go_at_call 48; refine (rcount_of _ _ (by assumption) _).mono ?_; rintro e w' ⟨rfl, rfl⟩)
        | (clear one; refine wpList_load_t rfl (.tmp 57) rfl w.heap.size rfl bxk ?_)
        | (go_at_call 49; refine (rtold_of _ _ _ _ _ K4 _).mono ?_; rintro e w4 ⟨rfl, b4⟩; have bx4 := bxk.keep b4; have hb4 := below_in hb3 b4; have s11 := bx4.c11)
        | (go_at_call 50; refine (rops_of _ _ _ c m.ops hn hmr.ops K5 _ (HR3.out.keep b4)).mono ?_; rintro e w5 ⟨rfl, b5⟩; have bx5 := bx4.keep b5; have hb5 := below_in hb4 b5; have s0 := bx5.c0; have s2 := bx5.c2; have s6 := bx5.c6; have s11 := bx5.c11; have S5 := b4.trans (b5.mono b4.size)))
      go_ret
      exact ⟨ret_bool HQ.out, hb5⟩
    by_cases c2 : m.kd = 2
    · have g2 : (m.kd == 2) = true := by simpa using c2
      by_cases h1 : n = 1
      · subst h1
        obtain ⟨l, hl⟩ : ∃ l, m.ops = l := ⟨_, rfl⟩
        have hln : l.length = 1 := by rw [← hl]; exact hn.out
        obtain ⟨o, rfl⟩ := List.length_eq_one_iff.1 hln
        obtain ⟨v, hv⟩ : ∃ q, plB o.row = q := ⟨_, rfl⟩
        have HV := hid hv
        have HX := hid (show v = q by
          have h : lastB m = q := HQ.out
          rw [← h, lastB, if_pos c2, hl, ← hv]
          simp [plH, plH.plB1, plB])
        obtain ⟨k, hk⟩ : ∃ k, o.row.length = k := ⟨_, rfl⟩
        have HK := hid hk
        have hr1 : RdO w3 A c [o] := by rw [← hl]; exact HR3.out
        obtain ⟨b, of, rfl, hcell⟩ := hr1.at_ (by simp)
        obtain ⟨B, d, hR, hRi⟩ := hcell 0 (by simp)
        have hR : w3.rangeAt b of ([.int .u8 o.kd, .int .u8 o.l, .int .u32 o.c, .int .u8 o.k, .int .i64 o.s, .int .u8 o.fl, .int .u32 o.fc, .int .u8 o.fk, .int .i64 o.fn, .int .i64 o.fm, .int .u8 o.al, .int .u32 o.ac, .int .u8 o.ak, .int .i64 o.an, .int .u8 o.tl, .int .u32 o.tc, .slice B (o.row.length) d]) := by
          rw [show of + 0 * 17 = of by omega] at hR
          exact hR
        have hRi : Ri w3 B d o.row := hRi
        rw [hk] at hR
        have HRR := hid hR
        have HRI := hid hRi
        clear hl hv hk hcell hr1 hln hR hRi HQ c2
        have two : True := trivial
        have one : True := trivial
        go_wp2_with (first
          | (go_at_call 48; refine (rcount_of _ _ (by assumption) _).mono ?_; rintro e w' ⟨rfl, rfl⟩)
          | (clear one; refine wpList_load_t rfl (.tmp 57) rfl w.heap.size rfl bxk ?_)
          | (go_at_call 49; refine (rtold_of _ _ _ _ _ K4 _).mono ?_; rintro e w4 ⟨rfl, b4⟩; have bx4 := bxk.keep b4; have hb4 := below_in hb3 b4; have s11 := bx4.c11)
          | (go_at_call 50; refine (rops_of _ _ _ c m.ops hn hmr.ops K5 _ (HR3.out.keep b4)).mono ?_; rintro e w5 ⟨rfl, b5⟩; have bx5 := bx4.keep b5; have hb5 := below_in hb4 b5; have s0 := bx5.c0; have s2 := bx5.c2; have s6 := bx5.c6; have s11 := bx5.c11; have S5 := b4.trans (b5.mono b4.size))
          | (clear two; refine wpList_load_e rfl (.tmp 78) rfl b _ rfl (range_keep HRR.out S5) ?_)
          | (go_at_call 51; refine (rplain_of v o B k d HK HV _ (HRI.out.keep S5)).mono ?_; rintro e w6 ⟨rfl, b6⟩; have hb6 := below_in hb5 b6))
        go_ret
        exact ⟨ret_bool HX.out, hb6⟩
      · have d3 : ((n : Int) == 1) = false := by simpa using (show ¬ (n : Int) = 1 by omega)
        have HX := hid (show false = q by
          have h : lastB m = q := HQ.out
          rw [← h, lastB, if_pos c2, decide_eq_false (by rw [hn.out]; exact h1)]; rfl)
        clear HQ c2 h1
        have one : True := trivial
        go_wp2_with (first
          | (go_at_call 48; refine (rcount_of _ _ (by assumption) _).mono ?_; rintro e w' ⟨rfl, rfl⟩)
          | (clear one; refine wpList_load_t rfl (.tmp 57) rfl w.heap.size rfl bxk ?_)
          | (go_at_call 49; refine (rtold_of _ _ _ _ _ K4 _).mono ?_; rintro e w4 ⟨rfl, b4⟩; have bx4 := bxk.keep b4; have hb4 := below_in hb3 b4; have s11 := bx4.c11)
          | (go_at_call 50; refine (rops_of _ _ _ c m.ops hn hmr.ops K5 _ (HR3.out.keep b4)).mono ?_; rintro e w5 ⟨rfl, b5⟩; have bx5 := bx4.keep b5; have hb5 := below_in hb4 b5; have s0 := bx5.c0; have s2 := bx5.c2; have s6 := bx5.c6; have s11 := bx5.c11; have S5 := b4.trans (b5.mono b4.size)))
        go_ret
        exact ⟨ret_bool HX.out, hb5⟩
    have g2 : (m.kd == 2) = false := by simpa using c2
    by_cases c4 : m.kd = 4 ∨ m.kd = 9
    · have HX := hid (show ((m.ak == 1) || (m.ak == 2)) = q by
        have h : lastB m = q := HQ.out
        rw [← h, lastB, if_neg c2, if_pos c4, askB])
      obtain ⟨x1, hx1⟩ : ∃ q, (m.ak == 1) = q := ⟨_, rfl⟩
      rw [hx1] at HX
      have g4 : (m.kd == 4) = true ∨ ((m.kd == 4) = false ∧ (m.kd == 9) = true) := by
        rcases c4 with h | h
        · exact .inl (by simpa using h)
        · exact .inr ⟨by rw [h]; rfl, by simpa using h⟩
      clear HQ c2 c4
      rcases g4 with g4 | ⟨g4, g9⟩ <;> cases x1
      all_goals (
        have one : True := trivial
        go_wp2_with (first
          | (go_at_call 48; refine (rcount_of _ _ (by assumption) _).mono ?_; rintro e w' ⟨rfl, rfl⟩)
          | (clear one; refine wpList_load_t rfl (.tmp 57) rfl w.heap.size rfl bxk ?_)
          | (go_at_call 49; refine (rtold_of _ _ _ _ _ K4 _).mono ?_; rintro e w4 ⟨rfl, b4⟩; have bx4 := bxk.keep b4; have hb4 := below_in hb3 b4; have s11 := bx4.c11)
          | (go_at_call 50; refine (rops_of _ _ _ c m.ops hn hmr.ops K5 _ (HR3.out.keep b4)).mono ?_; rintro e w5 ⟨rfl, b5⟩; have bx5 := bx4.keep b5; have hb5 := below_in hb4 b5; have s0 := bx5.c0; have s2 := bx5.c2; have s6 := bx5.c6; have s11 := bx5.c11; have S5 := b4.trans (b5.mono b4.size)))
        go_ret
        exact ⟨ret_bool HX.out, hb5⟩)
    have g4 : (m.kd == 4) = false := by
      have h : ¬ m.kd = 4 := fun h => c4 (.inl h)
      simpa using h
    have g9 : (m.kd == 9) = false := by
      have h : ¬ m.kd = 9 := fun h => c4 (.inr h)
      simpa using h
    have HX := hid (show (!(m.kd == 7) || decide (0 < m.se)) = q by
      have h : lastB m = q := HQ.out
      rw [← h, lastB, if_neg c2, if_neg c4])
    clear HQ c2 c4
    by_cases c7 : m.kd = 7
    · have g7 : (m.kd != 7) = false := by simpa using c7
      have HY := hid (show decide (0 < m.se) = q by rw [← HX.out, c7]; rfl)
      have one : True := trivial
      go_wp2_with (first
        | (go_at_call 48; refine (rcount_of _ _ (by assumption) _).mono ?_; rintro e w' ⟨rfl, rfl⟩)
        | (clear one; refine wpList_load_t rfl (.tmp 57) rfl w.heap.size rfl bxk ?_)
        | (go_at_call 49; refine (rtold_of _ _ _ _ _ K4 _).mono ?_; rintro e w4 ⟨rfl, b4⟩; have bx4 := bxk.keep b4; have hb4 := below_in hb3 b4; have s11 := bx4.c11)
        | (go_at_call 50; refine (rops_of _ _ _ c m.ops hn hmr.ops K5 _ (HR3.out.keep b4)).mono ?_; rintro e w5 ⟨rfl, b5⟩; have bx5 := bx4.keep b5; have hb5 := below_in hb4 b5; have s0 := bx5.c0; have s2 := bx5.c2; have s6 := bx5.c6; have s11 := bx5.c11; have S5 := b4.trans (b5.mono b4.size)))
      go_ret
      exact ⟨ret_bool HY.out, hb5⟩
    · have g7 : (m.kd != 7) = true := by simpa using c7
      have HY := hid (show true = q by rw [← HX.out, show (m.kd == 7) = false by simpa using c7]; rfl)
      have one : True := trivial
      go_wp2_with (first
        | (go_at_call 48; refine (rcount_of _ _ (by assumption) _).mono ?_; rintro e w' ⟨rfl, rfl⟩)
        | (clear one; refine wpList_load_t rfl (.tmp 57) rfl w.heap.size rfl bxk ?_)
        | (go_at_call 49; refine (rtold_of _ _ _ _ _ K4 _).mono ?_; rintro e w4 ⟨rfl, b4⟩; have bx4 := bxk.keep b4; have hb4 := below_in hb3 b4; have s11 := bx4.c11)
        | (go_at_call 50; refine (rops_of _ _ _ c m.ops hn hmr.ops K5 _ (HR3.out.keep b4)).mono ?_; rintro e w5 ⟨rfl, b5⟩; have bx5 := bx4.keep b5; have hb5 := below_in hb4 b5; have s0 := bx5.c0; have s2 := bx5.c2; have s6 := bx5.c6; have s11 := bx5.c11; have S5 := b4.trans (b5.mono b4.size)))
      go_ret
      exact ⟨ret_bool HY.out, hb5⟩
end Go.Proofs.YtdhfnacdjjdijaaGreat
