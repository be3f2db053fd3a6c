/-
  The contracts of the reference's May, Check, Behind.
-/
import Derived.Test.YtbigppdaoakkfaaGrC
import Derived.Test.YtbigppdaoakkfaaPoR
import Derived.Test.YtbigppdaoakkfaaPoU
namespace Go.Proofs.Ytbigppdaoakkfaa
open Go.RowKit
set_option linter.unusedVariables false
set_option linter.unusedSimpArgs false

set_option maxRecDepth 100000 in
set_option maxHeartbeats 800000 in
theorem rmay_of (q : Bool) (u l c : Int) (b : Bool) (hq : Hid (mayG ⟨u, l, c, b⟩ = q)) (w : World) :
    Calls Try.prog 34 #[.agg #[.int .i64 u, .int .u8 l, .int .u32 c, .bool b]] w fun e w' => e = .returned (.bool q) ∧ Below w.heap.size w w' := by
  by_cases h0 : u < 0
  · have d1 : decide (0 ≤ u) = false := decide_eq_false (by omega)
    have HV := hid (show q = false by rw [← hq.out, mayG, inR, decide_eq_false (by show ¬ (0 ≤ u ∧ u ≤ 7); omega), Bool.false_and])
    clear h0 hq
    go_enter Try.func34, Try.ntmps34
    go_wp2
    go_ret
    exact ⟨by rw [HV.out]; rfl, by go_grown⟩
  · have d1 : decide (0 ≤ u) = true := decide_eq_true (by omega)
    by_cases h8 : 8 ≤ u
    · have d2 : decide (u < 8) = false := decide_eq_false (by omega)
      have HV := hid (show q = false by rw [← hq.out, mayG, inR, decide_eq_false (by show ¬ (0 ≤ u ∧ u ≤ 7); omega), Bool.false_and])
      clear h0 h8 hq
      go_enter Try.func34, Try.ntmps34
      go_wp2
      go_ret
      exact ⟨by rw [HV.out]; rfl, by go_grown⟩
    · have d2 : decide (u < 8) = true := decide_eq_true (by omega)
      have HQ := hid (show clearB ⟨l, c, b⟩ = q by rw [← hq.out, mayG, inR, decide_eq_true (by show 0 ≤ u ∧ u ≤ 7; omega), Bool.true_and]; rfl)
      clear h0 h8 hq
      go_enter Try.func34, Try.ntmps34
      go_wp2_with fail
      refine (rClear_of q l c b HQ _).mono ?_
      rintro e w1 ⟨rfl, b1⟩
      replace b1 := past_alloc b1
      go_wp2
      go_ret
      exact ⟨rfl, b1⟩

set_option maxHeartbeats 800000 in
theorem rgcheck_of (q : Bool) (u l c : Int) (b : Bool) (hq : Hid (mayG ⟨u, l, c, b⟩ = q)) (w : World) :
    Calls Try.prog 22 #[.agg #[.int .i64 u, .int .u8 l, .int .u32 c, .bool b]] w fun e w' => e = .returned (.int .i64 (er q)) ∧ Below w.heap.size w w' := by
  go_enter Try.func22, Try.ntmps22
  go_wp2_with fail
  refine (rmay_of q u l c b hq _).mono ?_
  rintro e w1 ⟨rfl, b1⟩
  replace b1 := past_alloc b1
  cases q
  · go_wp2
    go_ret
    exact ⟨rfl, b1⟩
  · go_wp2
    go_ret
    exact ⟨rfl, b1⟩

set_option maxRecDepth 100000 in
set_option maxHeartbeats 800000 in
theorem behind_err (k : Int) (A : Option Addr) (n c : Nat) (B : Option Addr) (m d : Nat) (g : Int) (us : List Cl) (qs : List Qt) (u l0 l1 : Int) (b : Bool) (hq : mayG ⟨u, l0, l1, b⟩ = true) (hk : Hid (stE us g ⟨u, l0, l1, b⟩ = k ∧ k ≠ 0)) (w : World) (hn : us.length = n) :
    Calls Try.prog 35 #[.agg #[.slice A n c, .slice B m d, .int .i64 g], .agg #[.int .i64 u, .int .u8 l0, .int .u32 l1, .bool b]] w fun e w' => e = .returned (.tuple #[.agg #[.slice A n c, .slice B m d, .int .i64 g], .int .i64 k]) ∧ Below w.heap.size w w' := by
  by_cases h1 : (n : Int) ≤ u
  · have HK := hid (show k = 2 by rw [← hk.out.1]; exact stE_arg hq (by rw [hn]; exact h1))
    have d1 : decide ((n : Int) ≤ u) = true := decide_eq_true h1
    obtain rfl := HK.out
    clear hq hk hn h1
    go_enter Try.func35, Try.ntmps35
    go_wp2
    exact bodyPost_ret (v := .tuple #[.agg #[.slice A n c, .slice B m d, .int .i64 g], .int .i64 2]) (by simp [results, Try.results35, go_sem]) rfl ⟨rfl, by go_grown⟩
  · have d1 : decide ((n : Int) ≤ u) = false := decide_eq_false h1
    by_cases h2 : g = 0
    · have HK := hid (show k = 9 by rw [← hk.out.1]; exact stE_full hq (by rw [hn]; exact h1) h2)
      obtain rfl := HK.out
      subst h2
      clear hq hk hn h1
      go_enter Try.func35, Try.ntmps35
      go_wp2
      exact bodyPost_ret (v := .tuple #[.agg #[.slice A n c, .slice B m d, .int .i64 0], .int .i64 9]) (by simp [results, Try.results35, go_sem]) rfl ⟨rfl, by go_grown⟩
    · exact absurd (hk.out.1.symm.trans (stE_ok hq (by rw [hn]; exact h1) h2)) hk.out.2

set_option maxRecDepth 100000 in
set_option maxHeartbeats 1600000 in
theorem behind_ok (A : Option Addr) (n c : Nat) (B : Option Addr) (m d : Nat) (g : Int) (us : List Cl) (qs : List Qt) (u l0 l1 : Int) (b : Bool) (ht : Gr.typed ⟨u, l0, l1, b⟩) (hk : Hid (stE us g ⟨u, l0, l1, b⟩ = 0)) (hn0 : n ≤ 100) (hm0 : m ≤ 100) (hg0 : 0 ≤ g) (w : World) (hp : Pol w A n c B m d g us qs) :
    Calls Try.prog 35 #[.agg #[.slice A n c, .slice B m d, .int .i64 g], .agg #[.int .i64 u, .int .u8 l0, .int .u32 l1, .bool b]] w fun e w' => ∃ A' c' B' d', e = .returned (.tuple #[.agg #[.slice A' n c', .slice B' m d', .int .i64 (g - 1)], .int .i64 0]) ∧ OwnC w' w.heap.size A' c' (us.set u.toNat ⟨l0, l1, b⟩) ∧ OwnQ w' w.heap.size B' d' qs ∧ Below w.heap.size w w' := by
  have hn := hp.hn
  have HP := hid hp
  cases hq : mayG ⟨u, l0, l1, b⟩
  · rw [stE_bad hq] at hk; exact absurd hk.out (by decide)
  have HQ := hid hq
  have hu0 := (mayG_u hq).1
  by_cases h1 : (n : Int) ≤ u
  · rw [stE_arg hq (by rw [hn]; exact h1)] at hk; exact absurd hk.out (by decide)
  by_cases h2 : g = 0
  · rw [stE_full hq (by rw [hn]; exact h1) h2] at hk; exact absurd hk.out (by decide)
  have hg64 := hp.hg
  have HT := hid ht
  clear hk hq hp
  have d1 : decide ((n : Int) ≤ u) = false := decide_eq_false h1
  have d2 : (g == 0) = false := by simp [h2]
  go_enter Try.func35, Try.ntmps35
  go_wp2_with fail
  refine (rTwin_of A n c B m d g us qs (by omega) (by omega) _ (HP.out.keep (show Below w.heap.size w _ by go_grown))).mono ?_
  rintro e w2 ⟨A', c', B', d', rfl, hoc, hoq, b2⟩
  (have s0 : w2.cell? ⟨w.heap.size, 0, none⟩ = some (.slice A n c) := (keep b2 (by simp [go_sem])); have s1 : w2.cell? ⟨w.heap.size, 1, none⟩ = some (.slice B m d) := (keep b2 (by simp [go_sem])); have s2 : w2.cell? ⟨w.heap.size, 2, none⟩ = some (.int .i64 g) := (keep b2 (by simp [go_sem])))
  (have f0 : w2.frozen? ⟨w.heap.size, 0, none⟩ = false := (keepz b2 (v := .slice A n c) (by simp [go_sem]) (by simp [go_sem])); have f1 : w2.frozen? ⟨w.heap.size, 1, none⟩ = false := (keepz b2 (v := .slice B m d) (by simp [go_sem]) (by simp [go_sem])); have f2 : w2.frozen? ⟨w.heap.size, 2, none⟩ = false := (keepz b2 (v := .int .i64 g) (by simp [go_sem]) (by simp [go_sem])))
  (have t0 : w2.cell? ⟨w.heap.size + 1, 0, none⟩ = some (.int .i64 u) := (keep b2 (by simp [go_sem])); have t1 : w2.cell? ⟨w.heap.size + 1, 1, none⟩ = some (.int .u8 l0) := (keep b2 (by simp [go_sem])); have t2 : w2.cell? ⟨w.heap.size + 1, 2, none⟩ = some (.int .u32 l1) := (keep b2 (by simp [go_sem])); have t3 : w2.cell? ⟨w.heap.size + 1, 3, none⟩ = some (.bool b) := (keep b2 (by simp [go_sem])))
  (have z0 : w2.cell? ⟨w.heap.size + 1 + 1, 0, none⟩ = some (.slice none 0 0) := (keep b2 (by simp [go_sem])); have z1 : w2.cell? ⟨w.heap.size + 1 + 1, 1, none⟩ = some (.slice none 0 0) := (keep b2 (by simp [go_sem])); have z2 : w2.cell? ⟨w.heap.size + 1 + 1, 2, none⟩ = some (.int .i64 0) := (keep b2 (by simp [go_sem])))
  (have k0 : w2.frozen? ⟨w.heap.size + 1 + 1, 0, none⟩ = false := (keepz b2 (v := .slice none 0 0) (by simp [go_sem]) (by simp [go_sem])); have k1 : w2.frozen? ⟨w.heap.size + 1 + 1, 1, none⟩ = false := (keepz b2 (v := .slice none 0 0) (by simp [go_sem]) (by simp [go_sem])); have k2 : w2.frozen? ⟨w.heap.size + 1 + 1, 2, none⟩ = false := (keepz b2 (v := .int .i64 0) (by simp [go_sem]) (by simp [go_sem])))
  replace hoc := hoc.mono (base' := w.heap.size + 1 + 1 + 1) (by simp)
  replace hoq := hoq.mono (base' := w.heap.size + 1 + 1 + 1) (by simp)
  replace b2 := past_alloc3 b2
  go_wp2_with fail
  obtain ⟨j, rfl⟩ : ∃ j : Nat, u = (j : Int) := ⟨u.toNat, by omega⟩
  have hjn : j < n := by omega
  obtain ⟨r, rfl, hr0, hr1, ⟨cur, hcur⟩, -, -⟩ := row_at (show w2.ownsRow (w.heap.size + 1 + 1 + 1) 34 3 (.slice A' n c') n (flat Cl.cs us) by have h := hoc.1; unfold Owns at h; rw [hn] at h; exact h) (by omega)
  have hap : (Value.slice B' m d').ownBlock ≠ some r := rows_apart (e := 34) (e' := 67) hcur (by decide) (show w2.ownsRow (w.heap.size + 1 + 1 + 1) 67 5 (.slice B' m d') m (flat Qt.cs qs) by have h := hoq.1; unfold Owns at h; rw [HP.out.hm] at h; exact h)
  have hne : r ≠ w.heap.size := by omega
  have hne1 : r ≠ w.heap.size + 1 := by omega
  have hne2 : r ≠ w.heap.size + 1 + 1 := by omega
  generalize hV : World.setCell (World.setCell (World.setCell w2 _ _) _ _) _ _ = V
  have hcV : OwnC V (w.heap.size + 1 + 1 + 1) (some ⟨r, 0, none⟩) c' us := by rw [← hV]; exact ((hoc.set (by show w.heap.size < _; omega) _).set (by show w.heap.size < _; omega) _).set (by show w.heap.size < _; omega) _
  have hqV : OwnQ V (w.heap.size + 1 + 1 + 1) B' d' qs := by rw [← hV]; exact ((hoq.set (by show w.heap.size < _; omega) _).set (by show w.heap.size < _; omega) _).set (by show w.heap.size < _; omega) _
  have hbV : Below w.heap.size w V := by rw [← hV]; exact set3 b2 (Nat.le_refl _) _ _ _
  (have a0 : V.cell? ⟨w.heap.size, 0, none⟩ = some (.slice (some ⟨r, 0, none⟩) n c') := ((by rw [← hV]; simp [go_sem, s0, s1, s2])); have a1 : V.cell? ⟨w.heap.size, 1, none⟩ = some (.slice B' m d') := ((by rw [← hV]; simp [go_sem, s0, s1, s2])); have a2 : V.cell? ⟨w.heap.size, 2, none⟩ = some (.int .i64 g) := ((by rw [← hV]; simp [go_sem, s0, s1, s2])))
  (have e0 : V.frozen? ⟨w.heap.size, 0, none⟩ = false := ((by rw [← hV]; simp [go_sem, f0, f1, f2])); have e1 : V.frozen? ⟨w.heap.size, 1, none⟩ = false := ((by rw [← hV]; simp [go_sem, f0, f1, f2])); have e2 : V.frozen? ⟨w.heap.size, 2, none⟩ = false := ((by rw [← hV]; simp [go_sem, f0, f1, f2])))
  (have x0 : V.cell? ⟨w.heap.size + 1, 0, none⟩ = some (.int .i64 (j : Int)) := ((by rw [← hV]; simp [go_sem, t0, t1, t2, t3])); have x1 : V.cell? ⟨w.heap.size + 1, 1, none⟩ = some (.int .u8 l0) := ((by rw [← hV]; simp [go_sem, t0, t1, t2, t3])); have x2 : V.cell? ⟨w.heap.size + 1, 2, none⟩ = some (.int .u32 l1) := ((by rw [← hV]; simp [go_sem, t0, t1, t2, t3])); have x3 : V.cell? ⟨w.heap.size + 1, 3, none⟩ = some (.bool b) := ((by rw [← hV]; simp [go_sem, t0, t1, t2, t3])))
  (have y0 : V.cell? ⟨w.heap.size + 1 + 1, 0, none⟩ = some (.slice none 0 0) := ((by rw [← hV]; simp [go_sem, z0, z1, z2])); have y1 : V.cell? ⟨w.heap.size + 1 + 1, 1, none⟩ = some (.slice none 0 0) := ((by rw [← hV]; simp [go_sem, z0, z1, z2])); have y2 : V.cell? ⟨w.heap.size + 1 + 1, 2, none⟩ = some (.int .i64 0) := ((by rw [← hV]; simp [go_sem, z0, z1, z2])))
  (have h0 : V.frozen? ⟨w.heap.size + 1 + 1, 0, none⟩ = false := ((by rw [← hV]; simp [go_sem, k0, k1, k2])); have h1 : V.frozen? ⟨w.heap.size + 1 + 1, 1, none⟩ = false := ((by rw [← hV]; simp [go_sem, k0, k1, k2])); have h2 : V.frozen? ⟨w.heap.size + 1 + 1, 2, none⟩ = false := ((by rw [← hV]; simp [go_sem, k0, k1, k2])))
  have v0 := World.ownsRow.frozenAt hcV.1 (j * 3)
  have v1 := World.ownsRow.frozenAt hcV.1 (j * 3 + 1)
  have v2 := World.ownsRow.frozenAt hcV.1 (j * 3 + 2)
  obtain ⟨b0, o0, hA, hcell⟩ := hcV.rd.at_ (by omega)
  injection hA with hA
  injection hA with hA1 hA2
  subst hA1 hA2
  obtain ⟨p0, p1, p2, -⟩ := hcell j (by omega)
  simp only [Nat.zero_add] at p0 p1 p2
  generalize us[j]'(by omega) = xj at p0 p1 p2
  clear hcell
  have hcp := hcV.put j ⟨l0, l1, b⟩ HT.out.lab
  have hcap := row_cap (show w2.ownsRow (w.heap.size + 1 + 1 + 1) 34 3 (.slice (some ⟨r, 0, none⟩) n c') n (flat Cl.cs us) by have h := hoc.1; unfold Owns at h; rw [hn] at h; exact h)
  clear hV hoc hoq hcur b2 s0 s1 s2 t0 t1 t2 t3 f0 f1 f2 z0 z1 z2 k0 k1 k2
  go_wp2_with fail
  have hw : wrap64 (g - 1) = g - 1 := wrap64_id (by have := hg64.2; omega) (by have := hg64.2; omega)
  rw [hw]
  have hF : OwnC ((((V.setCell ⟨r, j * 3, none⟩ (.int .u8 l0)).setCell ⟨r, j * 3 + 1, none⟩ (.int .u32 l1)).setCell ⟨r, j * 3 + 2, none⟩ (.bool b)).setCell ⟨w.heap.size, 2, none⟩ (.int .i64 (g - 1))) (w.heap.size + 1 + 1 + 1) (some ⟨r, 0, none⟩) c' (us.set j ⟨l0, l1, b⟩) := hcp.set (by show w.heap.size < _; omega) _
  have hG : OwnQ ((((V.setCell ⟨r, j * 3, none⟩ (.int .u8 l0)).setCell ⟨r, j * 3 + 1, none⟩ (.int .u32 l1)).setCell ⟨r, j * 3 + 2, none⟩ (.bool b)).setCell ⟨w.heap.size, 2, none⟩ (.int .i64 (g - 1))) (w.heap.size + 1 + 1 + 1) B' d' qs := by
    refine OwnQ.set ⟨?_, hqV.2⟩ (by show w.heap.size < _; omega) _
    have e := HP.out.hm
    subst e
    exact row_far (row_far (row_far hqV.1 hap _ _) hap _ _) hap _ _
  have hH : Below w.heap.size w ((((V.setCell ⟨r, j * 3, none⟩ (.int .u8 l0)).setCell ⟨r, j * 3 + 1, none⟩ (.int .u32 l1)).setCell ⟨r, j * 3 + 2, none⟩ (.bool b)).setCell ⟨w.heap.size, 2, none⟩ (.int .i64 (g - 1))) := (((hbV.setCell (by show w.heap.size ≤ r; omega) _).setCell (by show w.heap.size ≤ r; omega) _).setCell (by show w.heap.size ≤ r; omega) _).setCell (by show w.heap.size ≤ w.heap.size; omega) _
  have hZ := ((((⟨y0, y1, y2⟩ : Box V (w.heap.size + 1 + 1) none 0 0 none 0 0 0).far hne2 (j * 3) (.int .u8 l0)).far hne2 (j * 3 + 1) (.int .u32 l1)).far hne2 (j * 3 + 2) (.bool b)).far (b := w.heap.size) (by omega) 2 (.int .i64 (g - 1))
  generalize hX : World.setCell (World.setCell (World.setCell (World.setCell V _ _) _ _) _ _) _ _ = X at *
  obtain ⟨q0, q1, q2⟩ := hZ
  exact bodyPost_ret (v := .tuple #[.agg #[.slice (some ⟨r, 0, none⟩) n c', .slice B' m d', .int .i64 (g - 1)], .int .i64 0]) (by simp [results, Try.results35, go_sem, q0, q1, q2]) rfl ⟨some ⟨r, 0, none⟩, c', B', d', rfl, OwnC.mono (((hF.set (by show w.heap.size + 1 + 1 < _; omega) _).set (by show w.heap.size + 1 + 1 < _; omega) _).set (by show w.heap.size + 1 + 1 < _; omega) _) (by omega), OwnQ.mono (((hG.set (by show w.heap.size + 1 + 1 < _; omega) _).set (by show w.heap.size + 1 + 1 < _; omega) _).set (by show w.heap.size + 1 + 1 < _; omega) _) (by omega), set3 hH (by omega) _ _ _⟩
end Go.Proofs.Ytbigppdaoakkfaa
