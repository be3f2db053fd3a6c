/-
  The contracts of come: what comes of a grant to a policy that may be.
-/
import Derived.Test.YtbigppdaoakkfaaGrA
namespace Go.Proofs.Ytbigppdaoakkfaa
open Go.RowKit
set_option linter.unusedVariables false
set_option linter.unusedSimpArgs false

theorem stE_bad {us : List Cl} {g : Int} {x : Gr} (h : mayG x = false) : stE us g x = 8 := by rw [stE, if_neg (by simp [h])]
theorem stE_arg {us : List Cl} {g : Int} {x : Gr} (h : mayG x = true) (h1 : (us.length : Int) ≤ x.u) : stE us g x = 2 := by rw [stE, if_pos h, if_pos h1]
theorem stE_full {us : List Cl} {g : Int} {x : Gr} (h : mayG x = true) (h1 : ¬ (us.length : Int) ≤ x.u) (h2 : g = 0) : stE us g x = 9 := by rw [stE, if_pos h, if_neg h1, if_pos h2]
theorem stE_ok {us : List Cl} {g : Int} {x : Gr} (h : mayG x = true) (h1 : ¬ (us.length : Int) ≤ x.u) (h2 : ¬ g = 0) : stE us g x = 0 := by rw [stE, if_pos h, if_neg h1, if_neg h2]
theorem mayG_u {x : Gr} (h : mayG x = true) : 0 ≤ x.u ∧ x.u ≤ 7 := by
  rw [mayG, Bool.and_eq_true, inR, decide_eq_true_eq] at h
  exact h.1

set_option maxRecDepth 100000 in
set_option maxHeartbeats 800000 in
theorem come_err (k : Int) (A : Option Addr) (n c : Nat) (B : Option Addr) (m d : Nat) (g : Int) (us : List Cl) (qs : List Qt) (u l0 l1 : Int) (b : Bool) (ht : Gr.typed ⟨u, l0, l1, b⟩) (hk : Hid (stE us g ⟨u, l0, l1, b⟩ = k ∧ k ≠ 0)) (w : World) (hp : Pol w A n c B m d g us qs) :
    Calls Try.prog 27 #[.agg #[.slice A n c, .slice B m d, .int .i64 g], .agg #[.int .i64 u, .int .u8 l0, .int .u32 l1, .bool b]] w fun e w' => e = .returned (.iface 26 (.int .i64 k)) ∧ Below w.heap.size w w' := by
  have hn := hp.hn
  cases hq : mayG ⟨u, l0, l1, b⟩
  · have HK := hid (show k = 8 by rw [← hk.out.1]; exact stE_bad hq)
    have HQ := hid hq
    obtain rfl := HK.out
    clear hq hk hn hp
    go_enter Try.func27, Try.ntmps27
    go_wp2_with fail
    refine (gcheck_of false u l0 l1 b ht HQ _).mono ?_
    rintro e w1 ⟨rfl, b1⟩
    have e8 : er false = 8 := rfl
    rw [e8]
    replace b1 := past_alloc2 b1
    go_wp2
    go_ret
    exact ⟨rfl, b1⟩
  · have HQ := hid hq
    by_cases h1 : (n : Int) ≤ u
    · have HK := hid (show k = 2 by rw [← hk.out.1]; exact stE_arg hq (by rw [hn]; exact h1))
      have d1 : decide ((n : Int) ≤ u) = true := decide_eq_true h1
      obtain rfl := HK.out
      clear hq hk hn hp h1
      go_enter Try.func27, Try.ntmps27
      go_wp2_with fail
      refine (gcheck_of true u l0 l1 b ht HQ _).mono ?_
      rintro e w1 ⟨rfl, b1⟩
      have e0 : er true = 0 := rfl
      rw [e0]
      (have s0 : w1.cell? ⟨w.heap.size, 0, none⟩ = some (.slice A n c) := (keep b1 (by simp [go_sem])); have s1 : w1.cell? ⟨w.heap.size, 1, none⟩ = some (.slice B m d) := (keep b1 (by simp [go_sem])); have s2 : w1.cell? ⟨w.heap.size, 2, none⟩ = some (.int .i64 g) := (keep b1 (by simp [go_sem])))
      (have t0 : w1.cell? ⟨w.heap.size + 1, 0, none⟩ = some (.int .i64 u) := (keep b1 (by simp [go_sem])); have t1 : w1.cell? ⟨w.heap.size + 1, 1, none⟩ = some (.int .u8 l0) := (keep b1 (by simp [go_sem])); have t2 : w1.cell? ⟨w.heap.size + 1, 2, none⟩ = some (.int .u32 l1) := (keep b1 (by simp [go_sem])); have t3 : w1.cell? ⟨w.heap.size + 1, 3, none⟩ = some (.bool b) := (keep b1 (by simp [go_sem])))
      replace b1 := past_alloc2 b1
      go_wp2
      go_ret
      exact ⟨rfl, b1⟩
    · have d1 : decide ((n : Int) ≤ u) = false := decide_eq_false h1
      by_cases h2 : g = 0
      · have HK := hid (show k = 9 by rw [← hk.out.1]; exact stE_full hq (by rw [hn]; exact h1) h2)
        obtain rfl := HK.out
        subst h2
        clear hq hk hn hp h1
        go_enter Try.func27, Try.ntmps27
        go_wp2_with fail
        refine (gcheck_of true u l0 l1 b ht HQ _).mono ?_
        rintro e w1 ⟨rfl, b1⟩
        have e0 : er true = 0 := rfl
        rw [e0]
        (have s0 : w1.cell? ⟨w.heap.size, 0, none⟩ = some (.slice A n c) := (keep b1 (by simp [go_sem])); have s1 : w1.cell? ⟨w.heap.size, 1, none⟩ = some (.slice B m d) := (keep b1 (by simp [go_sem])); have s2 : w1.cell? ⟨w.heap.size, 2, none⟩ = some (.int .i64 0) := (keep b1 (by simp [go_sem])))
        (have t0 : w1.cell? ⟨w.heap.size + 1, 0, none⟩ = some (.int .i64 u) := (keep b1 (by simp [go_sem])); have t1 : w1.cell? ⟨w.heap.size + 1, 1, none⟩ = some (.int .u8 l0) := (keep b1 (by simp [go_sem])); have t2 : w1.cell? ⟨w.heap.size + 1, 2, none⟩ = some (.int .u32 l1) := (keep b1 (by simp [go_sem])); have t3 : w1.cell? ⟨w.heap.size + 1, 3, none⟩ = some (.bool b) := (keep b1 (by simp [go_sem])))
        replace b1 := past_alloc2 b1
        go_wp2
        go_ret
        exact ⟨rfl, b1⟩
      · exact absurd (hk.out.1.symm.trans (stE_ok hq (by rw [hn]; exact h1) h2)) hk.out.2

/-- A policy answered in new memory. -/
def New (w : World) (n m : Nat) (g : Int) (us : List Cl) (qs : List Qt) (A' : Option Addr) (c' : Nat) (B' : Option Addr) (d' : Nat) (w' : World) : Prop := us.length = n ∧ qs.length = m ∧ In64 g ∧ OwnC w' w.heap.size A' c' us ∧ OwnQ w' w.heap.size B' d' qs

set_option maxRecDepth 100000 in
set_option maxHeartbeats 1600000 in
theorem come_ok (A : Option Addr) (n c : Nat) (B : Option Addr) (m d : Nat) (g : Int) (us : List Cl) (qs : List Qt) (u l0 l1 : Int) (b : Bool) (ht : Gr.typed ⟨u, l0, l1, b⟩) (hk : Hid (stE us g ⟨u, l0, l1, b⟩ = 0)) (hn0 : n ≤ 100) (hm0 : m ≤ 100) (hg0 : 0 ≤ g) (w : World) (hp : Pol w A n c B m d g us qs) :
    Calls Try.prog 27 #[.agg #[.slice A n c, .slice B m d, .int .i64 g], .agg #[.int .i64 u, .int .u8 l0, .int .u32 l1, .bool b]] w fun e w' => ∃ A' c' B' d', e = .returned (.iface 25 (.agg #[.slice A' n c', .slice B' m d', .int .i64 (g - 1)])) ∧ OwnC w' w.heap.size A' c' (us.set u.toNat ⟨l0, l1, b⟩) ∧ OwnQ w' w.heap.size B' d' qs ∧ Below w.heap.size w w' := by
  have hn := hp.hn
  have HP := hid hp
  cases hq : mayG ⟨u, l0, l1, b⟩
  · rw [stE_bad hq] at hk; exact absurd hk.out (by decide)
  have HQ := hid hq
  have hu0 := (mayG_u hq).1
  by_cases h1 : (n : Int) ≤ u
  · rw [stE_arg hq (by rw [hn]; exact h1)] at hk; exact absurd hk.out (by decide)
  by_cases h2 : g = 0
  · rw [stE_full hq (by rw [hn]; exact h1) h2] at hk; exact absurd hk.out (by decide)
  have hg64 := hp.hg
  have HT := hid ht
  clear hk hq hp
  have d1 : decide ((n : Int) ≤ u) = false := decide_eq_false h1
  have d2 : (g == 0) = false := by simp [h2]
  go_enter Try.func27, Try.ntmps27
  go_wp2_with fail
  refine (gcheck_of true u l0 l1 b ht HQ _).mono ?_
  rintro e w1 ⟨rfl, b1⟩
  have e0 : er true = 0 := rfl
  rw [e0]
  (have s0 : w1.cell? ⟨w.heap.size, 0, none⟩ = some (.slice A n c) := (keep b1 (by simp [go_sem])); have s1 : w1.cell? ⟨w.heap.size, 1, none⟩ = some (.slice B m d) := (keep b1 (by simp [go_sem])); have s2 : w1.cell? ⟨w.heap.size, 2, none⟩ = some (.int .i64 g) := (keep b1 (by simp [go_sem])))
  (have f0 : w1.frozen? ⟨w.heap.size, 0, none⟩ = false := (keepz b1 (v := .slice A n c) (by simp [go_sem]) (by simp [go_sem])); have f1 : w1.frozen? ⟨w.heap.size, 1, none⟩ = false := (keepz b1 (v := .slice B m d) (by simp [go_sem]) (by simp [go_sem])); have f2 : w1.frozen? ⟨w.heap.size, 2, none⟩ = false := (keepz b1 (v := .int .i64 g) (by simp [go_sem]) (by simp [go_sem])))
  (have t0 : w1.cell? ⟨w.heap.size + 1, 0, none⟩ = some (.int .i64 u) := (keep b1 (by simp [go_sem])); have t1 : w1.cell? ⟨w.heap.size + 1, 1, none⟩ = some (.int .u8 l0) := (keep b1 (by simp [go_sem])); have t2 : w1.cell? ⟨w.heap.size + 1, 2, none⟩ = some (.int .u32 l1) := (keep b1 (by simp [go_sem])); have t3 : w1.cell? ⟨w.heap.size + 1, 3, none⟩ = some (.bool b) := (keep b1 (by simp [go_sem])))
  have hlt1 : w.heap.size + 2 ≤ w1.heap.size := by have := b1.size; simpa using this
  replace b1 := past_alloc2 b1
  go_wp2_with fail
  refine (twin_of A n c B m d g us qs (by omega) (by omega) _ (HP.out.keep b1)).mono ?_
  rintro e w2 ⟨A', c', B', d', rfl, hoc, hoq, b2⟩
  (replace f0 := keepz b2 s0 f0; replace f1 := keepz b2 s1 f1; replace f2 := keepz b2 s2 f2)
  (replace s0 := keep b2 s0; replace s1 := keep b2 s1; replace s2 := keep b2 s2)
  (replace t0 := keep b2 t0; replace t1 := keep b2 t1; replace t2 := keep b2 t2; replace t3 := keep b2 t3)
  go_wp2_with fail
  obtain ⟨j, rfl⟩ : ∃ j : Nat, u = (j : Int) := ⟨u.toNat, by omega⟩
  have hjn : j < n := by omega
  obtain ⟨r, rfl, hr0, hr1, ⟨cur, hcur⟩, -, -⟩ := row_at (show w2.ownsRow w1.heap.size 34 3 (.slice A' n c') n (flat Cl.cs us) by have h := hoc.1; unfold Owns at h; rw [hn] at h; exact h) (by omega)
  have hap : (Value.slice B' m d').ownBlock ≠ some r := rows_apart (e := 34) (e' := 67) hcur (by decide) (show w2.ownsRow w1.heap.size 67 5 (.slice B' m d') m (flat Qt.cs qs) by have h := hoq.1; unfold Owns at h; rw [HP.out.hm] at h; exact h)
  have hne : r ≠ w.heap.size := by omega
  have hne1 : r ≠ w.heap.size + 1 := by omega
  have hbB := below_in b1 b2
  generalize hV : World.setCell (World.setCell (World.setCell w2 _ _) _ _) _ _ = V
  have hcV : OwnC V w1.heap.size (some ⟨r, 0, none⟩) c' us := by rw [← hV]; exact ((hoc.set (by show w.heap.size < _; omega) _).set (by show w.heap.size < _; omega) _).set (by show w.heap.size < _; omega) _
  have hqV : OwnQ V w1.heap.size B' d' qs := by rw [← hV]; exact ((hoq.set (by show w.heap.size < _; omega) _).set (by show w.heap.size < _; omega) _).set (by show w.heap.size < _; omega) _
  have hbV : Below w.heap.size w V := by rw [← hV]; exact set3 hbB (Nat.le_refl _) _ _ _
  (have a0 : V.cell? ⟨w.heap.size, 0, none⟩ = some (.slice (some ⟨r, 0, none⟩) n c') := ((by rw [← hV]; simp [go_sem, s0, s1, s2])); have a1 : V.cell? ⟨w.heap.size, 1, none⟩ = some (.slice B' m d') := ((by rw [← hV]; simp [go_sem, s0, s1, s2])); have a2 : V.cell? ⟨w.heap.size, 2, none⟩ = some (.int .i64 g) := ((by rw [← hV]; simp [go_sem, s0, s1, s2])))
  (have e0 : V.frozen? ⟨w.heap.size, 0, none⟩ = false := ((by rw [← hV]; simp [go_sem, f0, f1, f2])); have e1 : V.frozen? ⟨w.heap.size, 1, none⟩ = false := ((by rw [← hV]; simp [go_sem, f0, f1, f2])); have e2 : V.frozen? ⟨w.heap.size, 2, none⟩ = false := ((by rw [← hV]; simp [go_sem, f0, f1, f2])))
  (have x0 : V.cell? ⟨w.heap.size + 1, 0, none⟩ = some (.int .i64 (j : Int)) := ((by rw [← hV]; simp [go_sem, t0, t1, t2, t3])); have x1 : V.cell? ⟨w.heap.size + 1, 1, none⟩ = some (.int .u8 l0) := ((by rw [← hV]; simp [go_sem, t0, t1, t2, t3])); have x2 : V.cell? ⟨w.heap.size + 1, 2, none⟩ = some (.int .u32 l1) := ((by rw [← hV]; simp [go_sem, t0, t1, t2, t3])); have x3 : V.cell? ⟨w.heap.size + 1, 3, none⟩ = some (.bool b) := ((by rw [← hV]; simp [go_sem, t0, t1, t2, t3])))
  have k0 := World.ownsRow.frozenAt hcV.1 (j * 3)
  have k1 := World.ownsRow.frozenAt hcV.1 (j * 3 + 1)
  have k2 := World.ownsRow.frozenAt hcV.1 (j * 3 + 2)
  obtain ⟨b0, o0, hA, hcell⟩ := hcV.rd.at_ (by omega)
  injection hA with hA
  injection hA with hA1 hA2
  subst hA1 hA2
  obtain ⟨y0, y1, y2, -⟩ := hcell j (by omega)
  simp only [Nat.zero_add] at y0 y1 y2
  generalize us[j]'(by omega) = xj at y0 y1 y2
  clear hcell
  have hcp := hcV.put j ⟨l0, l1, b⟩ HT.out.lab
  have hcap := row_cap (show w2.ownsRow w1.heap.size 34 3 (.slice (some ⟨r, 0, none⟩) n c') n (flat Cl.cs us) by have h := hoc.1; unfold Owns at h; rw [hn] at h; exact h)
  clear hV hoc hoq hcur b1 b2 s0 s1 s2 t0 t1 t2 t3 f0 f1 f2 hbB
  go_wp2_with fail
  have hw : wrap64 (g - 1) = g - 1 := wrap64_id (by have := hg64.2; omega) (by have := hg64.2; omega)
  rw [hw]
  go_ret
  refine ⟨_, c', B', d', rfl, ?_, ?_, ?_⟩
  · exact OwnC.mono (hcp.set (by show w.heap.size < _; omega) _) (by omega)
  · refine OwnQ.mono (OwnQ.set (base := w1.heap.size) ⟨?_, hqV.2⟩ (by show w.heap.size < _; omega) _) (by omega)
    have e := HP.out.hm
    subst e
    exact row_far (row_far (row_far hqV.1 hap _ _) hap _ _) hap _ _
  · exact ((((hbV.setCell (by show w.heap.size ≤ r; omega) _).setCell (by show w.heap.size ≤ r; omega) _).setCell (by show w.heap.size ≤ r; omega) _).setCell (by show w.heap.size ≤ w.heap.size; omega) _)
end Go.Proofs.Ytbigppdaoakkfaa
