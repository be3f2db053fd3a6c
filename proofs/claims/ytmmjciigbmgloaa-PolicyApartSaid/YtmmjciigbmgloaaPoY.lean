/-
  A label's quota hangs on no other label's: the statement PolicyApart. Conditions: the statement's own (at most 100 users and quotas).
-/
import Derived.Test.YtmmjciigbmgloaaPoB2
import Derived.Test.YtmmjciigbmgloaaPoU
import Derived.Test.YtmmjciigbmgloaaPoV
import Derived.Test.YtmmjciigbmgloaaPoC
import Derived.Deep.RegionLaw
namespace Go.Proofs.Ytmmjciigbmgloaa
open Go.ChangeShapes Go.WideShapes Go.ChangeAt Go.RowKit Go.Joins
set_option linter.unusedVariables false
set_option linter.unusedSimpArgs false

theorem lit_one (w : World) (x0 x1 x2 x3 x4 : Int) : Rds Qt.cs (w.alloc (.cells #[.int .u8 x0, .int .u32 x1, .int .i64 x2, .int .i64 x3, .int .i64 x4] 26)) (some ⟨w.heap.size, 0, none⟩) 1 [⟨x0, x1, x2, x3, x4⟩] :=
  (Owns.lit Qt.cs_length (by omega) w (base := 0) 26 [⟨x0, x1, x2, x3, x4⟩] (Nat.zero_le _) (by simp)).rd Qt.cs_length

/-- A store into a block that was not there leaves what was. -/
theorem far_set {w w' : World} {a : Addr} {v v' : Value} {o : Nat} (h : w'.cell? a = some v) (h3 : w.cell? a = some v') (x : Value) : (w'.setCell ⟨w.heap.size, o, none⟩ x).cell? a = some v := by
  rw [World.cell?_setCell_far _ _ _ _ (Nat.ne_of_gt (World.block_lt_of_cell? w a h3))]; exact h
theorem ofQ_some {qs : List Qt} {a b : Int} {x : Qt} (h : fnd qs a b = some x) : ofQ qs a b = x := by rw [ofQ, h]; rfl
theorem apart_same {us : List Cl} {qs : List Qt} {g l0 l1 x0 x1 x2 x3 x4 y0 y1 y2 y3 y4 : Int} (hb : askB us (laid qs ⟨x0, x1, x2, x3, x4⟩) g l0 = true) (hU : quotaV us (laid qs ⟨x0, x1, x2, x3, x4⟩) g l0 l1 = ⟨y0, y1, y2, y3, y4⟩) (h : sameL l0 l1 x0 x1 = true) : sameQ y0 y1 y2 y3 y4 x0 x1 x2 x3 x4 = true := by
  obtain ⟨rfl, rfl⟩ := sameL_eq h
  rw [quotaV, hb, if_pos rfl, ofQ_some (laid_self qs ⟨l0, l1, x2, x3, x4⟩)] at hU
  injection hU with h1 h2 h3 h4 h5
  subst h1 h2 h3 h4 h5
  simp [sameQ]
theorem apart_other {us : List Cl} {qs : List Qt} {g l0 l1 x0 x1 x2 x3 x4 u0 u1 u2 u3 u4 y0 y1 y2 y3 y4 : Int} (ha : askB us qs g l0 = true) (hb : askB us (laid qs ⟨x0, x1, x2, x3, x4⟩) g l0 = true)
    (hV : quotaV us qs g l0 l1 = ⟨u0, u1, u2, u3, u4⟩) (hU : quotaV us (laid qs ⟨x0, x1, x2, x3, x4⟩) g l0 l1 = ⟨y0, y1, y2, y3, y4⟩) (h : sameL l0 l1 x0 x1 = false) : sameQ u0 u1 u2 u3 u4 y0 y1 y2 y3 y4 = true := by
  rw [sameL_symm] at h
  rw [quotaV, ha, if_pos rfl] at hV
  rw [quotaV, hb, if_pos rfl, ofQ, laid_other qs ⟨x0, x1, x2, x3, x4⟩ h] at hU
  rw [ofQ, hU] at hV
  injection hV with h1 h2 h3 h4 h5
  subst h1 h2 h3 h4 h5
  simp [sameQ]
/-- What the box of the policy under way holds. -/
structure Way (wr : World) (Q : Nat) (A : Option Addr) (n c : Nat) (g : Int) (E : Option Addr) (k d : Nat) : Prop where
  c0 : wr.cell? ⟨Q, 0, none⟩ = some (.slice A n c)
  c1 : wr.cell? ⟨Q, 1, none⟩ = some (.slice E k d)
  c2 : wr.cell? ⟨Q, 2, none⟩ = some (.int .i64 g)
  f1 : wr.frozen? ⟨Q, 1, none⟩ = false
  lt : Q + 1 ≤ wr.heap.size

theorem Way.keep {w w' : World} (hb : Below w.heap.size w w') {Q : Nat} {A : Option Addr} {n c : Nat} {g : Int} {E : Option Addr} {k d : Nat} (h : Way w Q A n c g E k d) : Way w' Q A n c g E k d :=
  ⟨Go.Proofs.Ytmmjciigbmgloaa.keep hb h.c0, Go.Proofs.Ytmmjciigbmgloaa.keep hb h.c1, Go.Proofs.Ytmmjciigbmgloaa.keep hb h.c2, keepz hb h.c1 h.f1, Nat.le_trans h.lt hb.size⟩

set_option maxRecDepth 100000 in
set_option maxHeartbeats 4000000 in
theorem papart_walk (A : Option Addr) (n c : Nat) (B : Option Addr) (m d : Nat) (g : Int) (us : List Cl) (qs : List Qt) (x0 x1 x2 x3 x4 l0 l1 : Int) (hx : Qt.typed ⟨x0, x1, x2, x3, x4⟩) (hl : Lab l0 l1) (w : World) (hp : Pol w A n c B m d g us qs) :
    Calls Try.prog 6 #[.agg #[.slice A n c, .slice B m d, .int .i64 g], .agg #[.int .u8 x0, .int .u32 x1, .int .i64 x2, .int .i64 x3, .int .i64 x4], .agg #[.int .u8 l0, .int .u32 l1]] w fun e w' => e = .returned (.bool true) ∧ Below w.heap.size w w' := by
  obtain ⟨j0, hj0, hy0, hy1, hy2⟩ := info_parts info_Q
  have hE := eql_label
  have hE2 := neq_label
  have hE3 := eql_quota
  generalize hG : decide (100 < n ∨ 100 < m) = G
  have HG := hid hG
  have HP := hid hp
  have HX := hid hx
  have hc2 : (d : Int) ≤ 9223372036854775807 := by have := hp.hq.cap; omega
  have hc1 : (m : Int) ≤ d := by have := hp.hq.len; have := hp.hm; omega
  clear hG hp hx hl
  go_enter Try.func6, Try.ntmps6
  go_wp2_with fail
  refine (alive_any _).mono ?_
  rintro e w1 ⟨rfl, b1⟩
  (have s0 : w1.cell? ⟨w.heap.size, 0, none⟩ = some (.slice A n c) := (keep b1 (by simp [go_sem])); have s1 : w1.cell? ⟨w.heap.size, 1, none⟩ = some (.slice B m d) := (keep b1 (by simp [go_sem])); have s2 : w1.cell? ⟨w.heap.size, 2, none⟩ = some (.int .i64 g) := (keep b1 (by simp [go_sem])))
  (have t0 : w1.cell? ⟨w.heap.size + 1, 0, none⟩ = some (.int .u8 x0) := (keep b1 (by simp [go_sem])); have t1 : w1.cell? ⟨w.heap.size + 1, 1, none⟩ = some (.int .u32 x1) := (keep b1 (by simp [go_sem])); have t2 : w1.cell? ⟨w.heap.size + 1, 2, none⟩ = some (.int .i64 x2) := (keep b1 (by simp [go_sem])); have t3 : w1.cell? ⟨w.heap.size + 1, 3, none⟩ = some (.int .i64 x3) := (keep b1 (by simp [go_sem])); have t4 : w1.cell? ⟨w.heap.size + 1, 4, none⟩ = some (.int .i64 x4) := (keep b1 (by simp [go_sem])))
  (have v0 : w1.cell? ⟨w.heap.size + 1 + 1, 0, none⟩ = some (.int .u8 l0) := (keep b1 (by simp [go_sem])); have v1 : w1.cell? ⟨w.heap.size + 1 + 1, 1, none⟩ = some (.int .u32 l1) := (keep b1 (by simp [go_sem])))
  have hb := past_alloc3 b1
  clear b1
  go_wp2_with fail
  refine (great_of G A n c B m d g HG _).mono ?_
  rintro e w2 ⟨rfl, b2⟩
  (replace s0 := keep b2 s0; replace s1 := keep b2 s1; replace s2 := keep b2 s2)
  (replace t0 := keep b2 t0; replace t1 := keep b2 t1; replace t2 := keep b2 t2; replace t3 := keep b2 t3; replace t4 := keep b2 t4)
  (replace v0 := keep b2 v0; replace v1 := keep b2 v1)
  replace hb := below_in hb b2
  clear b2
  cases G
  case true =>
    go_wp2
    go_ret
    exact ⟨rfl, hb⟩
  have hnm : n ≤ 100 ∧ m ≤ 100 := by have := of_decide_eq_false HG.out; omega
  go_wp2_with fail
  refine (rTwin_of A n c B m d g us qs (by omega) (by omega) _ (HP.out.keep hb)).mono ?_
  rintro e w3 ⟨A', c', B', d', rfl, hoc, -, b3⟩
  (replace s0 := keep b3 s0; replace s1 := keep b3 s1; replace s2 := keep b3 s2)
  (replace t0 := keep b3 t0; replace t1 := keep b3 t1; replace t2 := keep b3 t2; replace t3 := keep b3 t3; replace t4 := keep b3 t4)
  (replace v0 := keep b3 v0; replace v1 := keep b3 v1)
  replace hb := below_in hb b3
  clear b3
  go_wp2_with fail
  go_loopw [9, 10] (fun p i wr => ∃ (j : Nat) (pt : Bool) (ps : List Qt) (E : Option Addr) (k e : Nat), j ≤ m ∧ i = .int .i64 (j : Int) ∧ p = .bool pt ∧ Hid (bld qs ⟨x0, x1, x2, x3, x4⟩ j = (ps, pt)) ∧ Hid (ps.length = k) ∧ OwnQ wr (w3.heap.size + 1) E e ps ∧ Way wr w3.heap.size A' n c' g E k e ∧ Below w3.heap.size w3 wr) (fun _ i _ => m - (intOf i).toNat)
  case atStart => exact ⟨0, false, [], none, 0, 0, by omega, rfl, rfl, hid rfl, hid rfl, ⟨Owns.nil _ _ _, fun x hx => by cases hx⟩, ⟨by simp [go_sem], by simp [go_sem], by simp [go_sem], by simp [go_sem], by simp⟩, (Below.refl _ _).alloc (Nat.le_refl _) _⟩
  case round =>
    obtain ⟨j, pt, ps, E, k, e, hj, rfl, rfl, hbl, hk, ho, hway, hB⟩ := hrel
    by_cases hlt : j < m
    · have hl := HP.out.hm
      have hk200 : k ≤ 200 := by have := bld_length qs ⟨x0, x1, x2, x3, x4⟩ j; rw [hbl.out] at this; have h2 := hk.out; simp only at this; omega
      have hs : bld qs ⟨x0, x1, x2, x3, x4⟩ (j + 1) = ((ps ++ (if (!pt && aheadB x0 x1 (qs.getD j zQ).l (qs.getD j zQ).c) = true then [⟨x0, x1, x2, x3, x4⟩] else [])) ++ (if sameL (qs.getD j zQ).l (qs.getD j zQ).c x0 x1 = true then [] else [qs.getD j zQ]), pt || (!pt && aheadB x0 x1 (qs.getD j zQ).l (qs.getD j zQ).c)) := by rw [bld, hbl.out]
      rw [getD_at qs zQ j (by omega)] at hs
      obtain ⟨b, o, rfl, hcell⟩ := (HP.out.hq.keep hb).at_ (by omega)
      obtain ⟨k0, k1, k2, k3, k4, ht⟩ := hcell j (by omega)
      generalize qs[j]'(by omega) = y at k0 k1 k2 k3 k4 ht hs
      obtain ⟨y0, y1, y2, y3, y4⟩ := y
      have hlt2 : (j : Int) < (m : Int) := by omega
      have HT := hid ht
      generalize hv : aheadB x0 x1 y0 y1 = av at hs
      have HV := hid hv
      clear hcell hl ht hv v0 v1 hbl
      (have p0 := keep hB s0; have p1 := keep hB s1; have p2 := keep hB s2)
      (have q0 := keep hB t0; have q1 := keep hB t1; have q2 := keep hB t2; have q3 := keep hB t3; have q4 := keep hB t4)
      (have r0 := keep hB k0; have r1 := keep hB k1; have r2 := keep hB k2; have r3 := keep hB k3; have r4 := keep hB k4)
      cases pt
      case' true =>
        simp only [Bool.not_true, Bool.false_and, Bool.true_or, Bool.or_false, Bool.false_eq_true, if_false, List.append_nil] at hs
        have HS := hid hs
        clear hs
        go_wp2_with fail
        refine wp_region_past (by kernel_rfl) (by kernel_rfl) ?_
        repeat (go_big_quiet_step (fail))
        refine wpQuiet_nil ?_
        rintro wa ⟨⟨_, hx⟩, rfl⟩
        replace ho := ho.keep hx
        replace hway := hway.keep hx
        replace hB := below_in hB hx
        clear hx p0 p1 p2 q0 q1 q2 q3 q4 r0 r1 r2 r3 r4
        go_wp2_with fail
        obtain ⟨ps2, E2, kk, e2, hk2, HS2, ho2, hway2, hB2, hkk⟩ : ∃ (ps2 : List Qt) (E2 : Option Addr) (kk e2 : Nat), Hid (ps2.length = kk) ∧ Hid (bld qs ⟨x0, x1, x2, x3, x4⟩ (j + 1) = (ps2 ++ (if sameL y0 y1 x0 x1 = true then [] else [⟨y0, y1, y2, y3, y4⟩]), true)) ∧ OwnQ wa (w3.heap.size + 1) E2 e2 ps2 ∧ Way wa w3.heap.size A' n c' g E2 kk e2 ∧ Below w3.heap.size w3 wa ∧ kk ≤ 201 := ⟨ps, E, k, e, hk, HS, ho, hway, hB, by omega⟩
        clear hk HS ho hway hB hk200
      case' false =>
        cases av
        case' false =>
          simp only [Bool.not_false, Bool.true_and, Bool.false_or, Bool.or_false, Bool.false_eq_true, if_false, List.append_nil] at hs
          have HS := hid hs
          clear hs
          go_wp2_with fail
          (have a0 := Past.all q0; have a1 := Past.all q1; have a2 := Past.all q2; have a3 := Past.all q3; have a4 := Past.all q4)
          (have b0 := Past.all r0; have b1 := Past.all r1; have b2 := Past.all r2; have b3 := Past.all r3; have b4 := Past.all r4)
          (have c0 := Past.all p0; have c1 := Past.all p1; have c2 := Past.all p2)
          refine wp_region_past (by kernel_rfl) (by kernel_rfl) ?_
          repeat (go_big_quiet_step (exact quiet_below (ahead_of false _ _ _ _ _ HV.out)))
          refine wpQuiet_nil ?_
          rintro wa ⟨⟨_, hx⟩, rfl⟩
          replace ho := ho.keep hx
          replace hway := hway.keep hx
          replace hB := below_in hB hx
          clear hx p0 p1 p2 q0 q1 q2 q3 q4 r0 r1 r2 r3 r4 a0 a1 a2 a3 a4 b0 b1 b2 b3 b4 c0 c1 c2
          go_wp2_with fail
          obtain ⟨ps2, E2, kk, e2, hk2, HS2, ho2, hway2, hB2, hkk⟩ : ∃ (ps2 : List Qt) (E2 : Option Addr) (kk e2 : Nat), Hid (ps2.length = kk) ∧ Hid (bld qs ⟨x0, x1, x2, x3, x4⟩ (j + 1) = (ps2 ++ (if sameL y0 y1 x0 x1 = true then [] else [⟨y0, y1, y2, y3, y4⟩]), false)) ∧ OwnQ wa (w3.heap.size + 1) E2 e2 ps2 ∧ Way wa w3.heap.size A' n c' g E2 kk e2 ∧ Below w3.heap.size w3 wa ∧ kk ≤ 201 := ⟨ps, E, k, e, hk, HS, ho, hway, hB, by omega⟩
          clear hk HS ho hway hB hk200
        case' true =>
          simp only [Bool.not_false, Bool.true_and, Bool.false_or, Bool.or_false, if_true] at hs
          have HS := hid hs
          clear hs
          go_wp2_with fail
          (have a0 := Past.all q0; have a1 := Past.all q1; have a2 := Past.all q2; have a3 := Past.all q3; have a4 := Past.all q4)
          (have b0 := Past.all r0; have b1 := Past.all r1; have b2 := Past.all r2; have b3 := Past.all r3; have b4 := Past.all r4)
          (have c0 := Past.all p0; have c1 := Past.all p1; have c2 := Past.all p2)
          refine wp_region_past (by kernel_rfl) (by kernel_rfl) ?_
          repeat (go_big_quiet_step (exact quiet_below (ahead_of true _ _ _ _ _ HV.out)))
          refine wpQuiet_nil ?_
          rintro wq ⟨⟨_, hx⟩, rfl⟩
          replace ho := ho.keep hx
          replace hway := hway.keep hx
          replace hB := below_in hB hx
          clear hx p0 p1 p2 q0 q1 q2 q3 q4 r0 r1 r2 r3 r4 a0 a1 a2 a3 a4 b0 b1 b2 b3 b4 c0 c1 c2
          obtain ⟨h0, h1, h2, h3, h4⟩ := hway
          (have q0 := keep hB t0; have q1 := keep hB t1; have q2 := keep hB t2; have q3 := keep hB t3; have q4 := keep hB t4)
          go_wp2_with (at_builtin; refine wpList_append_s rfl (.tmp 47) (.tmp 49) _ rfl (w3.heap.size + 1) 26 Qt.cs_length (by omega) Qt.cs_one Try.underlying31 hj0 hy0 rfl hy1 hy2 (by omega) E k e ps hk rfl (ho.1.keep ((Below.refl _ _).alloc (Nat.le_refl _) _)) (some ⟨wq.heap.size, 0, none⟩) 1 1 [⟨x0, x1, x2, x3, x4⟩] (hid rfl) rfl (lit_one wq _ _ _ _ _) (by omega) (by simp; omega) ?_; intro E' e' wz ho' hb'; have z1 := keepB hb' (a := ⟨w3.heap.size, 1, none⟩) (by show w3.heap.size < _; omega) (keepa h1 _); have z2 := keepzB hb' (a := ⟨w3.heap.size, 1, none⟩) (by show w3.heap.size < _; omega) (keepfa h1 h3 _))
          have z0 := keepB hb' (a := ⟨w3.heap.size, 0, none⟩) (by show w3.heap.size < _; omega) (keepa h0 _)
          have z3 := keepB hb' (a := ⟨w3.heap.size, 2, none⟩) (by show w3.heap.size < _; omega) (keepa h2 _)
          have hWz : Below w3.heap.size w3 wz := (hB.alloc hB.size _).trans (hb'.mono (by omega))
          have hzz := hb'.size
          simp only [World.size_alloc] at hzz
          generalize hwa : wz.setCell _ _ = wa
          have hBa : Below w3.heap.size w3 wa := by rw [← hwa]; exact hWz.setCell (by show w3.heap.size ≤ w3.heap.size; omega) _
          have hwaya : Way wa w3.heap.size A' n c' g E' (k + 1) e' := by
            rw [← hwa]
            exact ⟨by simp [go_sem, z0, z1], by simp [go_sem, z1], by simp [go_sem, z3, z1], by simp [go_sem, z2, z1], by simp; omega⟩
          have hoa : OwnQ wa (w3.heap.size + 1) E' e' (ps ++ [⟨x0, x1, x2, x3, x4⟩]) := by
            rw [← hwa]
            refine ⟨ho'.set (by show w3.heap.size < _; omega) _, fun x hx => ?_⟩
            rcases List.mem_append.1 hx with h | h
            · exact ho.2 _ h
            · simp only [List.mem_singleton] at h; subst h; exact HX.out
          clear hwa z0 z1 z2 z3 h0 h1 h2 h3 h4 hWz hzz ho' hb' ho hB q0 q1 q2 q3 q4
          obtain ⟨ps2, E2, kk, e2, hk2, HS2, ho2, hway2, hB2, hkk⟩ : ∃ (ps2 : List Qt) (E2 : Option Addr) (kk e2 : Nat), Hid (ps2.length = kk) ∧ Hid (bld qs ⟨x0, x1, x2, x3, x4⟩ (j + 1) = (ps2 ++ (if sameL y0 y1 x0 x1 = true then [] else [⟨y0, y1, y2, y3, y4⟩]), true)) ∧ OwnQ wa (w3.heap.size + 1) E2 e2 ps2 ∧ Way wa w3.heap.size A' n c' g E2 kk e2 ∧ Below w3.heap.size w3 wa ∧ kk ≤ 201 := ⟨ps ++ [⟨x0, x1, x2, x3, x4⟩], E', k + 1, e', hid (by rw [List.length_append, hk.out]; rfl), HS, hoa, hwaya, hBa, by omega⟩
          clear hk HS hoa hwaya hBa hk200
      all_goals
        have hs := HS2.out
        clear HS2
        (have p0 := keep hB2 s0; have p1 := keep hB2 s1; have p2 := keep hB2 s2)
        (have q0 := keep hB2 t0; have q1 := keep hB2 t1; have q2 := keep hB2 t2; have q3 := keep hB2 t3; have q4 := keep hB2 t4)
        (have r0 := keep hB2 k0; have r1 := keep hB2 k1; have r2 := keep hB2 k2; have r3 := keep hB2 k3; have r4 := keep hB2 k4)
        (have a0 := Past.all q0; have a1 := Past.all q1; have a2 := Past.all q2; have a3 := Past.all q3; have a4 := Past.all q4)
        (have b0 := Past.all r0; have b1 := Past.all r1; have b2 := Past.all r2; have b3 := Past.all r3; have b4 := Past.all r4)
        (have c0 := Past.all p0; have c1 := Past.all p1; have c2 := Past.all p2)
        cases hd : sameL y0 y1 x0 x1
        · rw [hd, if_neg (by decide)] at hs
          have HS := hid hs
          clear hs
          refine wp_region_past (by kernel_rfl) (by kernel_rfl) ?_
          repeat (go_big_quiet_step (fail))
          refine wpQuiet_nil ?_
          rintro wb ⟨⟨_, hx⟩, rfl⟩
          replace ho2 := ho2.keep hx
          replace hway2 := hway2.keep hx
          replace hB2 := below_in hB2 hx
          clear hx p0 p1 p2 q0 q1 q2 q3 q4 r0 r1 r2 r3 r4 a0 a1 a2 a3 a4 b0 b1 b2 b3 b4 c0 c1 c2
          go_wp2_with fail
          obtain ⟨h0, h1, h2, h3, h4⟩ := hway2
          (have p0 := keep hB2 s0; have p1 := keep hB2 s1; have p2 := keep hB2 s2)
          (have r0 := keep hB2 k0; have r1 := keep hB2 k1; have r2 := keep hB2 k2; have r3 := keep hB2 k3; have r4 := keep hB2 k4)
          have z1a := fun o => keepa h1 o
          go_region_law (refine step_append_s rfl (.tmp 62) (.tmp 68) _ (by rfl) (w3.heap.size + 1) 26 Qt.cs_length (by omega) Qt.cs_one Try.underlying31 hj0 hy0 rfl hy1 hy2 (by omega) E2 kk e2 ps2 hk2 (by rfl) (ho2.1.keep (by first | exact ((Below.refl _ _).drew).alloc (Nat.le_refl _) _ | exact ((Below.refl _ _).alloc (Nat.le_refl _) _).drew)) (some ⟨wb.heap.size, 0, none⟩) 1 1 [⟨y0, y1, y2, y3, y4⟩] (hid rfl) (by rfl) (by first | exact lit_one wb.drew _ _ _ _ _ | exact lit_one wb _ _ _ _ _) (by omega) (by simp; omega) ?_; intro E' e' wz ho' hb'; have z1 := keepB hb' (a := ⟨w3.heap.size, 1, none⟩) (by show w3.heap.size < _; omega) (z1a _); have z2 := keepzB hb' (a := ⟨w3.heap.size, 1, none⟩) (by show w3.heap.size < _; omega) (keepfa h1 h3 _))
          all_goals
            have z0 := keepB hb' (a := ⟨w3.heap.size, 0, none⟩) (by show w3.heap.size < _; omega) (keepa h0 _)
            have z3 := keepB hb' (a := ⟨w3.heap.size, 2, none⟩) (by show w3.heap.size < _; omega) (keepa h2 _)
            have hWz : Below w3.heap.size w3 wz := (show Below w3.heap.size w3 _ from by first | exact (hB2.alloc hB2.size _).drew | exact (hB2.drew).alloc hB2.size _).trans (hb'.mono (by omega))
            have hzz := hWz.size
            have hz4 : w3.heap.size + 1 ≤ wz.heap.size := World.block_lt_of_cell? wz _ z1
            clear p0 p1 p2 r0 r1 r2 r3 r4 z1a h0 h1 h2 h3 h4 hb'
            generalize hwc : wz.setCell _ _ = wc
            have hBc : Below w3.heap.size w3 wc := by rw [← hwc]; exact hWz.setCell (by show w3.heap.size ≤ w3.heap.size; omega) _
            have hwayc : Way wc w3.heap.size A' n c' g E' (kk + 1) e' := by
              rw [← hwc]
              exact ⟨by simp [go_sem, z0, z1], by simp [go_sem, z1], by simp [go_sem, z3, z1], by simp [go_sem, z2, z1], by simpa using hz4⟩
            have hoc2 : OwnQ wc (w3.heap.size + 1) E' e' (ps2 ++ [⟨y0, y1, y2, y3, y4⟩]) := by
              rw [← hwc]
              refine ⟨ho'.set (by show w3.heap.size < _; omega) _, fun x hx => ?_⟩
              rcases List.mem_append.1 hx with h | h
              · exact ho2.2 _ h
              · simp only [List.mem_singleton] at h; subst h; exact HT.out
            clear hwc z0 z1 z2 z3 hWz hzz hz4 ho'
            go_wp2
            go_roundw
            case rel => exact ⟨j + 1, _, ps2 ++ [⟨y0, y1, y2, y3, y4⟩], E', kk + 1, e', by omega, by go_num, rfl, HS, hid (by rw [List.length_append, hk2.out]; rfl), hoc2, hwayc, hBc⟩
            case measure => simp [intOf]; omega
        · rw [hd, if_pos rfl, List.append_nil] at hs
          have HS := hid hs
          clear hs
          refine wp_region_past (by kernel_rfl) (by kernel_rfl) ?_
          repeat (go_big_quiet_step (fail))
          refine wpQuiet_nil ?_
          rintro wb ⟨⟨_, hx⟩, rfl⟩
          replace ho2 := ho2.keep hx
          replace hway2 := hway2.keep hx
          replace hB2 := below_in hB2 hx
          clear hx p0 p1 p2 q0 q1 q2 q3 q4 r0 r1 r2 r3 r4 a0 a1 a2 a3 a4 b0 b1 b2 b3 b4 c0 c1 c2
          go_wp2
          go_roundw
          case rel => exact ⟨j + 1, _, ps2, E2, kk, e2, by omega, by go_num, rfl, HS, hk2, ho2, hway2, hB2⟩
          case measure => simp [intOf]; omega
    · obtain rfl : j = m := by omega
      have hlaid : laid qs ⟨x0, x1, x2, x3, x4⟩ = if pt = true then ps else ps ++ [⟨x0, x1, x2, x3, x4⟩] := by rw [laid, HP.out.hm, hbl.out]
      have hk200 : k ≤ 200 := by have := bld_length qs ⟨x0, x1, x2, x3, x4⟩ j; rw [hbl.out] at this; have h2 := hk.out; simp only at this; omega
      clear hbl hlt hj
      generalize hV : quotaV us qs g l0 l1 = V
      generalize hU : quotaV us (laid qs ⟨x0, x1, x2, x3, x4⟩) g l0 l1 = U
      generalize ha : askB us qs g l0 = a
      generalize hbb : askB us (laid qs ⟨x0, x1, x2, x3, x4⟩) g l0 = bb
      obtain ⟨u0, u1, u2, u3, u4⟩ := V
      obtain ⟨y0, y1, y2, y3, y4⟩ := U
      have HV := hid (show quotaV us qs g l0 l1 = ⟨u0, u1, u2, u3, u4⟩ ∧ er (askB us qs g l0) = er a from ⟨hV, by rw [ha]⟩)
      have HU := hid (show quotaV us (laid qs ⟨x0, x1, x2, x3, x4⟩) g l0 l1 = ⟨y0, y1, y2, y3, y4⟩ ∧ er (askB us (laid qs ⟨x0, x1, x2, x3, x4⟩) g l0) = er bb from ⟨hU, by rw [hbb]⟩)
      have HSame := hid (show a = true → bb = true → sameL l0 l1 x0 x1 = true → sameQ y0 y1 y2 y3 y4 x0 x1 x2 x3 x4 = true from fun g1 g2 g3 => apart_same (by rw [hbb, g2]) hU g3)
      have HOther := hid (show a = true → bb = true → sameL l0 l1 x0 x1 = false → sameQ u0 u1 u2 u3 u4 y0 y1 y2 y3 y4 = true from fun g1 g2 g3 => apart_other (by rw [ha, g1]) (by rw [hbb, g2]) hV hU g3)
      clear hV hU ha hbb
      cases pt
      case' true =>
        rw [if_pos rfl] at hlaid
        have HS := hid hlaid
        clear hlaid
        (have p0 := keep hB s0; have p1 := keep hB s1; have p2 := keep hB s2)
        (have f0 := keep hB v0; have f1 := keep hB v1)
        go_wp2_with fail
        clear p0 p1 p2 f0 f1
        obtain ⟨ps2, E2, kk, e2, hk2, HS2, ho2, hway2, hB2⟩ : ∃ (ps2 : List Qt) (E2 : Option Addr) (kk e2 : Nat), Hid (ps2.length = kk) ∧ Hid (laid qs ⟨x0, x1, x2, x3, x4⟩ = ps2) ∧ OwnQ wr (w3.heap.size + 1) E2 e2 ps2 ∧ Way wr w3.heap.size A' n c' g E2 kk e2 ∧ Below w3.heap.size w3 wr := ⟨ps, E, k, e, hk, HS, ho, hway, hB⟩
        clear hk HS ho hway hB hk200
      case' false =>
        rw [if_neg (by decide)] at hlaid
        have HS := hid hlaid
        clear hlaid
        (have q0 := keep hB t0; have q1 := keep hB t1; have q2 := keep hB t2; have q3 := keep hB t3; have q4 := keep hB t4)
        (have p0 := keep hB s0; have p1 := keep hB s1; have p2 := keep hB s2)
        obtain ⟨h0, h1, h2, h3, h4⟩ := hway
        go_wp2_with (at_builtin; refine wpList_append_s rfl (.tmp 74) (.tmp 76) _ rfl (w3.heap.size + 1) 26 Qt.cs_length (by omega) Qt.cs_one Try.underlying31 hj0 hy0 rfl hy1 hy2 (by omega) E k e ps hk rfl (ho.1.keep ((Below.refl _ _).alloc (Nat.le_refl _) _)) (some ⟨wr.heap.size, 0, none⟩) 1 1 [⟨x0, x1, x2, x3, x4⟩] (hid rfl) rfl (lit_one wr _ _ _ _ _) (by omega) (by simp; omega) ?_; intro E' e' wz ho' hb'; have z1 := keepB hb' (a := ⟨w3.heap.size, 1, none⟩) (by show w3.heap.size < _; omega) (keepa h1 _); have z2 := keepzB hb' (a := ⟨w3.heap.size, 1, none⟩) (by show w3.heap.size < _; omega) (keepfa h1 h3 _); have hWz : Below w3.heap.size w3 wz := (hB.alloc hB.size _).trans (hb'.mono (by omega)); (have a0 := keep hWz s0; have a1 := keep hWz s1; have a2 := keep hWz s2); replace a0 := fun x : Value => (show (wz.setCell ⟨w3.heap.size, 1, none⟩ x).cell? _ = _ from far_set a0 s0 x); replace a1 := fun x : Value => (show (wz.setCell ⟨w3.heap.size, 1, none⟩ x).cell? _ = _ from far_set a1 s1 x); replace a2 := fun x : Value => (show (wz.setCell ⟨w3.heap.size, 1, none⟩ x).cell? _ = _ from far_set a2 s2 x); (have f0 := keep hWz v0; have f1 := keep hWz v1); replace f0 := fun x : Value => (show (wz.setCell ⟨w3.heap.size, 1, none⟩ x).cell? _ = _ from far_set f0 v0 x); replace f1 := fun x : Value => (show (wz.setCell ⟨w3.heap.size, 1, none⟩ x).cell? _ = _ from far_set f1 v1 x))
        have z0 := keepB hb' (a := ⟨w3.heap.size, 0, none⟩) (by show w3.heap.size < _; omega) (keepa h0 _)
        have z3 := keepB hb' (a := ⟨w3.heap.size, 2, none⟩) (by show w3.heap.size < _; omega) (keepa h2 _)
        have hz4 : w3.heap.size + 1 ≤ wz.heap.size := World.block_lt_of_cell? wz _ z1
        clear a0 a1 a2 f0 f1 hb' h0 h1 h2 h3 h4 q0 q1 q2 q3 q4 p0 p1 p2 hB
        generalize hwc : wz.setCell _ _ = wr
        have hBc : Below w3.heap.size w3 wr := by rw [← hwc]; exact hWz.setCell (by show w3.heap.size ≤ w3.heap.size; omega) _
        have hwayc : Way wr w3.heap.size A' n c' g E' (k + 1) e' := by
          rw [← hwc]
          exact ⟨by simp [go_sem, z0, z1], by simp [go_sem, z1], by simp [go_sem, z3, z1], by simp [go_sem, z2, z1], by simpa using hz4⟩
        have hoc2 : OwnQ wr (w3.heap.size + 1) E' e' (ps ++ [⟨x0, x1, x2, x3, x4⟩]) := by
          rw [← hwc]
          refine ⟨ho'.set (by show w3.heap.size < _; omega) _, fun x hx => ?_⟩
          rcases List.mem_append.1 hx with h | h
          · exact ho.2 _ h
          · simp only [List.mem_singleton] at h; subst h; exact HX.out
        clear hwc z0 z1 z2 z3 hWz hz4 ho' ho
        obtain ⟨ps2, E2, kk, e2, hk2, HS2, ho2, hway2, hB2⟩ : ∃ (ps2 : List Qt) (E2 : Option Addr) (kk e2 : Nat), Hid (ps2.length = kk) ∧ Hid (laid qs ⟨x0, x1, x2, x3, x4⟩ = ps2) ∧ OwnQ wr (w3.heap.size + 1) E2 e2 ps2 ∧ Way wr w3.heap.size A' n c' g E2 kk e2 ∧ Below w3.heap.size w3 wr := ⟨ps ++ [⟨x0, x1, x2, x3, x4⟩], E', k + 1, e', hid (by rw [List.length_append, hk.out]; rfl), HS, hoc2, hwayc, hBc⟩
        clear hk HS hoc2 hwayc hBc hk200
      all_goals
        have HQ : Hid (quotaV us ps2 g l0 l1 = ⟨y0, y1, y2, y3, y4⟩ ∧ er (askB us ps2 g l0) = er bb) := hid (by have := HU.out; rwa [HS2.out] at this)
        refine (quota_of u0 u1 u2 u3 u4 (er a) A n c B j d g us qs l0 l1 HV _ (HP.out.keep (below_in hb hB2))).mono ?_
        rintro e w5 ⟨rfl, b5⟩
        replace ho2 := ho2.keep b5
        replace hway2 := hway2.keep b5
        replace hB2 := below_in hB2 b5
        clear b5
        obtain ⟨h0, h1, h2, h3, h4⟩ := hway2
        (have f0 := keep hB2 v0; have f1 := keep hB2 v1)
        (have q0 := keep hB2 t0; have q1 := keep hB2 t1; have q2 := keep hB2 t2; have q3 := keep hB2 t3; have q4 := keep hB2 t4)
        (replace f0 := fun o => keepa f0 o; replace f1 := fun o => keepa f1 o)
        replace h0 := fun o => keepa h0 o
        replace h1 := fun o => keepa h1 o
        replace h2 := fun o => keepa h2 o
        go_wp2_with fail
        have HP2 : Pol (w5.alloc (.cells #[.int .u8 u0, .int .u32 u1, .int .i64 u2, .int .i64 u3, .int .i64 u4] 26)) A' n c' E2 kk e2 g us ps2 :=
          ⟨HP.out.hn, hk2.out, hoc.rd.keep (hB2.alloc hB2.size _), ho2.rd.keep ((Below.refl _ _).alloc (Nat.le_refl _) _), HP.out.hg⟩
        refine (quota_of y0 y1 y2 y3 y4 (er bb) A' n c' E2 kk e2 g us ps2 l0 l1 HQ _ HP2).mono ?_
        rintro e w6 ⟨rfl, b6⟩
        (have y0 : w6.cell? ⟨w5.heap.size, 0, none⟩ = some (.int .u8 u0) := (keep b6 (by simp [go_sem])); have y1 : w6.cell? ⟨w5.heap.size, 1, none⟩ = some (.int .u32 u1) := (keep b6 (by simp [go_sem])); have y2 : w6.cell? ⟨w5.heap.size, 2, none⟩ = some (.int .i64 u2) := (keep b6 (by simp [go_sem])); have y3 : w6.cell? ⟨w5.heap.size, 3, none⟩ = some (.int .i64 u3) := (keep b6 (by simp [go_sem])); have y4 : w6.cell? ⟨w5.heap.size, 4, none⟩ = some (.int .i64 u4) := (keep b6 (by simp [go_sem])))
        replace f0 := keep b6 (f0 _)
        replace f1 := keep b6 (f1 _)
        replace b6 := past_alloc b6
        (replace q0 := keep b6 q0; replace q1 := keep b6 q1; replace q2 := keep b6 q2; replace q3 := keep b6 q3; replace q4 := keep b6 q4)
        replace hB2 := below_in hB2 b6
        have hbz := below_in hb hB2
        clear b6 h0 h1 h2 h3 h4 HP2 ho2 hB2
        (replace q0 := fun o => keepa q0 o; replace q1 := fun o => keepa q1 o; replace q2 := fun o => keepa q2 o; replace q3 := fun o => keepa q3 o; replace q4 := fun o => keepa q4 o)
        (replace y0 := fun o => keepa y0 o; replace y1 := fun o => keepa y1 o; replace y2 := fun o => keepa y2 o; replace y3 := fun o => keepa y3 o; replace y4 := fun o => keepa y4 o)
        (replace f0 := fun o => keepa f0 o; replace f1 := fun o => keepa f1 o)
        have e0 : er true = 0 := rfl
        have e8 : er false = 8 := rfl
        cases a
        · rw [e8]
          go_wp2
          go_ret
          exact ⟨rfl, hbz.alloc hbz.size _⟩
        cases bb
        · rw [e0, e8]
          go_wp2
          go_ret
          exact ⟨rfl, hbz.alloc hbz.size _⟩
        rw [e0]
        cases hL : sameL l0 l1 x0 x1
        · have g1 := HOther.out rfl rfl hL
          go_wp2
          go_ret
          exact ⟨rfl, hbz.alloc hbz.size _⟩
        · have g1 := HSame.out rfl rfl hL
          go_wp2
          go_ret
          exact ⟨rfl, hbz.alloc hbz.size _⟩

set_option maxRecDepth 100000 in
theorem papart_lifted (os : Os) (started : os.Started) (H : Type) (enc : TypeId × Value → H) :
    ReturnsInHanded {} Try.checked os 6 .any (Rows.policyApartSpec.pre6 enc Try.prog Try.f6 Rows.policyApartRow.domain false) (Rows.policyApartSpec.post enc Try.prog Try.f6 false true false false) := by
  refine returnsInHanded_of_change (C := Try.checked) own started (by kernel_rfl) Try.func6
    (ChangeSpec.witness6 (enc := enc) (C := Try.checked) false ⟨#[], #[.agg #[.slice none 0 0, .slice none 0 0, .int .i64 0], .agg #[.int .u8 0, .int .u32 0, .int .i64 0, .int .i64 0, .int .i64 0], .agg #[.int .u8 0, .int .u32 0]], []⟩ 8 (by kernel_rfl) (by kernel_rfl) (by kernel_rfl) (by kernel_rfl)) ?_
  intro W base args ds gs before hval0 hW _ _
  have hval : ∀ (j : Nat) t v, Try.f6.params[j]? = some t → args[j]? = some v → Value.okWide Try.prog W .any base t v := hval0
  have hW' := hW
  obtain ⟨p, q, hA0, hV, rfl, _, _⟩ := hW
  have hA : DataW.TrodAll enc Try.prog W 0 (fun _ => true) true Try.f6.params.toList args.toList ds p := hA0
  rw [Try.params6] at hA hval
  obtain ⟨v0, v1, v2, d0, d1, d2, p0, p1, p2, rfl, rfl, rfl, h0, h1, h2⟩ := trodAll_three hA
  obtain ⟨rfl, rfl⟩ := trodVars_none hV
  obtain ⟨A, n, c, B, m, d, g, us, qs, rfl, hr⟩ := open_policy (hval 0 _ v0 rfl rfl) h0
  obtain ⟨x0, x1, x2, x3, x4, rfl, hx⟩ := open_quota (hval 1 _ v1 rfl rfl) h1
  obtain ⟨l0, l1, rfl, hl⟩ := open_label (hval 2 _ v2 rfl rfl) h2
  refine (papart_walk A n c B m d g us qs x0 x1 x2 x3 x4 l0 l1 hx hl W hr).mono fun e W' ⟨he, hg⟩ => ?_
  subst he
  exact ⟨_, rfl, law_post laidOut (by kernel_rfl) rfl Try.underlying4 rfl rfl hW' hg⟩

theorem papart_holds : Rows.PolicyApartSaid :=
  OpenClaim.holds_of_wide 6 Try.f6 rfl rfl rfl rfl rfl rfl rfl ⟨rfl, rfl, rfl, rfl, rfl⟩ rfl rfl rfl rfl rfl (by kernel_rfl) Try.func6 (by kernel_rfl)
    (of_decide_eq_true (by kernel_rfl)) (by unfold Func.isWrapper; rw [if_neg (of_decide_eq_false (by kernel_rfl))]; exact ⟨rfl, rfl⟩)
    (fun os started H enc _ => papart_lifted os started H enc)
#print axioms papart_holds
end Go.Proofs.Ytmmjciigbmgloaa
