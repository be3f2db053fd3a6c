/-
  The contracts of the reference's Check, Blocks, Opens and May.
-/
import Derived.Test.YtmmjciigbmgloaaPoP
import Derived.Test.YtmmjciigbmgloaaPoF
namespace Go.Proofs.Ytmmjciigbmgloaa
open Go.RowKit
set_option linter.unusedVariables false
set_option linter.unusedSimpArgs false

set_option maxHeartbeats 800000 in
theorem rCheck_of (k : Int) (A : Option Addr) (n c : Nat) (B : Option Addr) (m d : Nat) (g : Int) (us : List Cl) (qs : List Qt) (hk : Hid (er (rightB us qs g) = k)) (w : World) (hp : Pol w A n c B m d g us qs) :
    Calls Try.prog 20 #[.agg #[.slice A n c, .slice B m d, .int .i64 g]] w fun e w' => e = .returned (.int .i64 k) ∧ Below w.heap.size w w' := by
  have HP := hid hp
  cases hq : rightB us qs g
  · have HQ := hid hq
    have HV := hid (show k = 8 by rw [← hk.out, hq]; rfl)
    clear hp hq
    go_enter Try.func20, Try.ntmps20
    go_wp2_with fail
    refine (rRight_of false A n c B m d g us qs HQ _ (HP.out.keep (by go_grown))).mono ?_
    rintro e w1 ⟨rfl, b1⟩
    replace b1 := past_alloc b1
    go_wp2
    go_ret
    exact ⟨ret_int HV.out.symm, b1⟩
  · have HQ := hid hq
    have HV := hid (show k = 0 by rw [← hk.out, hq]; rfl)
    clear hp hq
    go_enter Try.func20, Try.ntmps20
    go_wp2_with fail
    refine (rRight_of true A n c B m d g us qs HQ _ (HP.out.keep (by go_grown))).mono ?_
    rintro e w1 ⟨rfl, b1⟩
    replace b1 := past_alloc b1
    go_wp2
    go_ret
    exact ⟨ret_int HV.out.symm, b1⟩

theorem right_range {us : List Cl} {qs : List Qt} {g : Int} (h : rightB us qs g = true) : qs.length ≤ 8 ∧ okQ qs qs.length = true ∧ 0 ≤ g ∧ g ≤ 64 := by
  simp only [rightB, quotasB, inR, Bool.and_eq_true, decide_eq_true_eq] at h
  exact ⟨h.1.1.1.2.1, h.1.1.1.2.2, h.1.1.2.1, h.1.1.2.2⟩

set_option maxHeartbeats 800000 in
theorem rBlocks_of (z k : Int) (A : Option Addr) (n c : Nat) (B : Option Addr) (m d : Nat) (g : Int) (us : List Cl) (qs : List Qt) (hz : Hid ((if rightB us qs g = true then g + smB qs m else 0) = z ∧ er (rightB us qs g) = k)) (w : World) (hp : Pol w A n c B m d g us qs) :
    Calls Try.prog 16 #[.agg #[.slice A n c, .slice B m d, .int .i64 g]] w fun e w' => e = .returned (.tuple #[.int .i64 z, .int .i64 k]) ∧ Below w.heap.size w w' := by
  have HP := hid hp
  cases hq : rightB us qs g
  · have hx := hz.out
    rw [hq] at hx
    obtain ⟨rfl, rfl⟩ := hx
    have HQ := hid hq
    have e8 : er false = 8 := rfl
    clear hp hq hz
    rw [e8]
    go_enter Try.func16, Try.ntmps16
    go_wp2_with fail
    refine (rRight_of false A n c B m d g us qs HQ _ (HP.out.keep (by go_grown))).mono ?_
    rintro e w1 ⟨rfl, b1⟩
    replace b1 := past_alloc b1
    go_wp2
    go_ret2
    exact ⟨rfl, b1⟩
  · have hx := hz.out
    rw [hq] at hx
    obtain ⟨hx1, rfl⟩ := hx
    rw [if_pos rfl] at hx1
    have HQ := hid hq
    have HX := hid hx1
    have hr := right_range hq
    rw [hp.hm] at hr
    have HO := hid hr.2.1
    have hr1 := hr.1
    have hr2 := hr.2.2.1
    have hr3 := hr.2.2.2
    have e0 : er true = 0 := rfl
    clear hp hq hz hx1 hr
    rw [e0]
    go_enter Try.func16, Try.ntmps16
    go_wp2_with fail
    refine (rRight_of true A n c B m d g us qs HQ _ (HP.out.keep (by go_grown))).mono ?_
    rintro e w1 ⟨rfl, b1⟩
    (have s0 : w1.cell? ⟨w.heap.size, 0, none⟩ = some (.slice A n c) := (keep b1 (by simp [go_sem])); have s1 : w1.cell? ⟨w.heap.size, 1, none⟩ = some (.slice B m d) := (keep b1 (by simp [go_sem])); have s2 : w1.cell? ⟨w.heap.size, 2, none⟩ = some (.int .i64 g) := (keep b1 (by simp [go_sem])))
    replace b1 := past_alloc b1
    go_wp2_with fail
    refine (rSum_of z A n c B m d g us qs hr1 hr2 hr3 HO HX _ (HP.out.keep b1)).mono ?_
    rintro e w2 ⟨rfl, b2⟩
    replace b1 := below_in b1 b2
    go_wp2
    go_ret2
    exact ⟨rfl, b1⟩

theorem rLeq_of (b : Bool) (l c l' c' : Int) (h : Lab l c) (h' : Lab l' c') (hb : leqB l c l' c' = b) (w : World) :
    Calls Try.prog 50 #[.agg #[.int .u8 l, .int .u32 c], .agg #[.int .u8 l', .int .u32 c']] w fun e w' => e = .returned (.bool b) ∧ Below w.heap.size w w' := by subst hb; exact rLeq_int l c l' c' h h' w

set_option maxRecDepth 100000 in
set_option maxHeartbeats 1600000 in
theorem rOpens_of (v : Bool) (A : Option Addr) (n c : Nat) (B : Option Addr) (m d : Nat) (g : Int) (us : List Cl) (qs : List Qt) (u l0 l1 : Int) (hl : Lab l0 l1) (hv : Hid (opensB us u l0 l1 = v)) (w : World) (hp : Pol w A n c B m d g us qs) :
    Calls Try.prog 39 #[.agg #[.slice A n c, .slice B m d, .int .i64 g], .int .i64 u, .agg #[.int .u8 l0, .int .u32 l1]] w fun e w' => e = .returned (.bool v) ∧ Below w.heap.size w w' := by
  have HP := hid hp
  have HL := hid hl
  by_cases hu0 : u < 0
  · have d1 : decide (0 ≤ u) = false := decide_eq_false (by omega)
    have HV := hid (show v = false by rw [← hv.out]; exact opens_out (.inl hu0))
    clear hp hl hu0
    go_enter Try.func39, Try.ntmps39
    go_wp2_with fail
    generalize hW : (w.alloc _).alloc _ = W
    have hbW : Below w.heap.size w W := by subst hW; go_grown
    clear hW
    refine wp_region_past (by kernel_rfl) (by kernel_rfl) ?_
    repeat (go_big_quiet_step (fail))
    refine wpQuiet_nil ?_
    rintro w4 ⟨⟨_, hx⟩, rfl⟩
    go_wp2
    go_ret
    exact ⟨ret_bool HV.out.symm, below_in hbW hx⟩
  have d1 : decide (0 ≤ u) = true := decide_eq_true (by omega)
  by_cases hun : (n : Int) ≤ u
  · have d2 : decide (u < (n : Int)) = false := decide_eq_false (by omega)
    have HV := hid (show v = false by rw [← hv.out]; exact opens_out (.inr (by rw [hp.hn]; exact hun)))
    clear hp hl hu0 hun
    go_enter Try.func39, Try.ntmps39
    go_wp2_with fail
    generalize hW : (w.alloc _).alloc _ = W
    have hbW : Below w.heap.size w W := by subst hW; go_grown
    (have s0 : W.cell? ⟨w.heap.size, 0, none⟩ = some (.slice A n c) := ((by subst hW; simp [go_sem])); have s1 : W.cell? ⟨w.heap.size, 1, none⟩ = some (.slice B m d) := ((by subst hW; simp [go_sem])); have s2 : W.cell? ⟨w.heap.size, 2, none⟩ = some (.int .i64 g) := ((by subst hW; simp [go_sem])))
    clear hW
    (have q0 := Past.all s0; have q1 := Past.all s1; have q2 := Past.all s2)
    refine wp_region_past (by kernel_rfl) (by kernel_rfl) ?_
    repeat (go_big_quiet_step (fail))
    refine wpQuiet_nil ?_
    rintro w4 ⟨⟨_, hx⟩, rfl⟩
    go_wp2
    go_ret
    exact ⟨ret_bool HV.out.symm, below_in hbW hx⟩
  obtain ⟨j, rfl⟩ : ∃ j : Nat, u = (j : Int) := ⟨u.toNat, by omega⟩
  have hjn : (j : Int) < (n : Int) := by omega
  have d2 : decide ((j : Int) < (n : Int)) = true := decide_eq_true hjn
  have hn := hp.hn
  have hv' := hv.out
  rw [opens_at j (by omega)] at hv'
  have hc2 : (c : Int) ≤ 9223372036854775807 := by have := hp.hu.cap; omega
  have hc1 : (n : Int) ≤ c := by have := hp.hu.len; omega
  obtain ⟨b, o, rfl, hcell⟩ := hp.hu.at_ (by omega)
  obtain ⟨k0, k1, k2, ht⟩ := hcell j (by omega)
  generalize us[j]'(by omega) = x at k0 k1 k2 ht hv'
  obtain ⟨x0, x1, x2⟩ := x
  have HT := hid ht
  have HV := hid hv'
  clear hv' hcell hn hu0 hun ht hp hl
  cases x2
  · have HW := hid (show v = false by rw [← HV.out]; rfl)
    go_enter Try.func39, Try.ntmps39
    go_wp2_with fail
    generalize hW : (w.alloc _).alloc _ = W
    have hbW : Below w.heap.size w W := by subst hW; go_grown
    (have s0 : W.cell? ⟨w.heap.size, 0, none⟩ = some (.slice (some ⟨b, o, none⟩) n c) := ((by subst hW; simp [go_sem])); have s1 : W.cell? ⟨w.heap.size, 1, none⟩ = some (.slice B m d) := ((by subst hW; simp [go_sem])); have s2 : W.cell? ⟨w.heap.size, 2, none⟩ = some (.int .i64 g) := ((by subst hW; simp [go_sem])))
    clear hW
    (replace k0 := keep hbW k0; replace k1 := keep hbW k1; replace k2 := keep hbW k2)
    (have q0 := Past.all s0; have q1 := Past.all s1; have q2 := Past.all s2)
    (have r0 := Past.all k0; have r1 := Past.all k1; have r2 := Past.all k2)
    refine wp_region_past (by kernel_rfl) (by kernel_rfl) ?_
    repeat (go_big_quiet_step (fail))
    refine wpQuiet_nil ?_
    rintro w4 ⟨⟨_, hx⟩, rfl⟩
    go_wp2
    go_ret
    exact ⟨ret_bool HW.out.symm, below_in hbW hx⟩
  · have HW := hid (show leqB l0 l1 x0 x1 = v by rw [← HV.out]; rfl)
    go_enter Try.func39, Try.ntmps39
    go_wp2_with fail
    generalize hW : (w.alloc _).alloc _ = W
    have hbW : Below w.heap.size w W := by subst hW; go_grown
    (have s0 : W.cell? ⟨w.heap.size, 0, none⟩ = some (.slice (some ⟨b, o, none⟩) n c) := ((by subst hW; simp [go_sem])); have s1 : W.cell? ⟨w.heap.size, 1, none⟩ = some (.slice B m d) := ((by subst hW; simp [go_sem])); have s2 : W.cell? ⟨w.heap.size, 2, none⟩ = some (.int .i64 g) := ((by subst hW; simp [go_sem])))
    (have t0 : W.cell? ⟨w.heap.size + 1, 0, none⟩ = some (.int .u8 l0) := ((by subst hW; simp [go_sem])); have t1 : W.cell? ⟨w.heap.size + 1, 1, none⟩ = some (.int .u32 l1) := ((by subst hW; simp [go_sem])))
    clear hW
    (replace k0 := keep hbW k0; replace k1 := keep hbW k1; replace k2 := keep hbW k2)
    (have q0 := Past.all s0; have q1 := Past.all s1; have q2 := Past.all s2)
    (have r0 := Past.all k0; have r1 := Past.all k1; have r2 := Past.all k2)
    (have f0 := Past.all t0; have f1 := Past.all t1)
    refine wp_region_past (by kernel_rfl) (by kernel_rfl) ?_
    repeat (go_big_quiet_step (exact quiet_below (rLeq_of v _ _ _ _ HL.out HT.out HW.out _)))
    refine wpQuiet_nil ?_
    rintro w4 ⟨⟨_, hx⟩, rfl⟩
    go_wp2
    go_ret
    exact ⟨rfl, below_in hbW hx⟩

set_option maxRecDepth 100000 in
set_option maxHeartbeats 1600000 in
theorem rMay'_of (v : Bool) (k : Int) (A : Option Addr) (n c : Nat) (B : Option Addr) (m d : Nat) (g : Int) (us : List Cl) (qs : List Qt) (u l0 l1 : Int) (hl : Lab l0 l1) (hz : Hid ((askB us qs g l0 && opensB us u l0 l1) = v ∧ er (askB us qs g l0) = k)) (w : World) (hp : Pol w A n c B m d g us qs) :
    Calls Try.prog 17 #[.agg #[.slice A n c, .slice B m d, .int .i64 g], .int .i64 u, .agg #[.int .u8 l0, .int .u32 l1]] w fun e w' => e = .returned (.tuple #[.bool v, .int .i64 k]) ∧ Below w.heap.size w w' := by
  have HP := hid hp
  have HL := hid hl
  cases hq : rightB us qs g
  · have ha : askB us qs g l0 = false := by rw [askB, hq]; rfl
    have hx := hz.out
    rw [ha] at hx
    obtain ⟨rfl, rfl⟩ := hx
    have e8 : er false = 8 := rfl
    have HQ := hid hq
    clear hp hl hq hz ha
    rw [e8]
    go_enter Try.func17, Try.ntmps17
    go_wp2_with fail
    refine (rRight_of false A n c B m d g us qs HQ _ (HP.out.keep (by go_grown))).mono ?_
    rintro e w1 ⟨rfl, b1⟩
    replace b1 := past_alloc2 b1
    go_wp2
    go_ret2
    exact ⟨rfl, b1⟩
  cases hm : mayL l0
  · have ha : askB us qs g l0 = false := by rw [askB, hm, Bool.and_false]
    have hx := hz.out
    rw [ha] at hx
    obtain ⟨rfl, rfl⟩ := hx
    have e8 : er false = 8 := rfl
    have HQ := hid hq
    have HM := hid hm
    clear hp hl hq hz ha hm
    rw [e8]
    go_enter Try.func17, Try.ntmps17
    go_wp2_with fail
    refine (rRight_of true A n c B m d g us qs HQ _ (HP.out.keep (by go_grown))).mono ?_
    rintro e w1 ⟨rfl, b1⟩
    (have t0 : w1.cell? ⟨w.heap.size + 1, 0, none⟩ = some (.int .u8 l0) := (keep b1 (by simp [go_sem])); have t1 : w1.cell? ⟨w.heap.size + 1, 1, none⟩ = some (.int .u32 l1) := (keep b1 (by simp [go_sem])))
    replace b1 := past_alloc2 b1
    go_wp2_with fail
    refine (rMay_of false l0 l1 HM _).mono ?_
    rintro e w2 ⟨rfl, b2⟩
    replace b1 := below_in b1 b2
    go_wp2
    go_ret2
    exact ⟨rfl, b1⟩
  · have ha : askB us qs g l0 = true := by rw [askB, hq, hm]; rfl
    have hx := hz.out
    rw [ha] at hx
    obtain ⟨hx1, rfl⟩ := hx
    rw [Bool.true_and] at hx1
    have e0 : er true = 0 := rfl
    have HQ := hid hq
    have HM := hid hm
    have HX := hid hx1
    clear hp hl hq hz ha hm hx1
    rw [e0]
    go_enter Try.func17, Try.ntmps17
    go_wp2_with fail
    refine (rRight_of true A n c B m d g us qs HQ _ (HP.out.keep (by go_grown))).mono ?_
    rintro e w1 ⟨rfl, b1⟩
    (have s0 : w1.cell? ⟨w.heap.size, 0, none⟩ = some (.slice A n c) := (keep b1 (by simp [go_sem])); have s1 : w1.cell? ⟨w.heap.size, 1, none⟩ = some (.slice B m d) := (keep b1 (by simp [go_sem])); have s2 : w1.cell? ⟨w.heap.size, 2, none⟩ = some (.int .i64 g) := (keep b1 (by simp [go_sem])))
    (have t0 : w1.cell? ⟨w.heap.size + 1, 0, none⟩ = some (.int .u8 l0) := (keep b1 (by simp [go_sem])); have t1 : w1.cell? ⟨w.heap.size + 1, 1, none⟩ = some (.int .u32 l1) := (keep b1 (by simp [go_sem])))
    replace b1 := past_alloc2 b1
    go_wp2_with fail
    refine (rMay_of true l0 l1 HM _).mono ?_
    rintro e w2 ⟨rfl, b2⟩
    (replace s0 := keep b2 s0; replace s1 := keep b2 s1; replace s2 := keep b2 s2)
    (replace t0 := keep b2 t0; replace t1 := keep b2 t1)
    replace b1 := below_in b1 b2
    clear b2
    go_wp2_with fail
    refine (rOpens_of v A n c B m d g us qs u l0 l1 HL.out HX _ (HP.out.keep b1)).mono ?_
    rintro e w3 ⟨rfl, b3⟩
    replace b1 := below_in b1 b3
    go_wp2
    go_ret2
    exact ⟨rfl, b1⟩
end Go.Proofs.Ytmmjciigbmgloaa
