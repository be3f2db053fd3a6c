/-
  The contract of grant.Apply.
-/
import Derived.Test.YtbigppdaoakkfaaGrB
namespace Go.Proofs.Ytbigppdaoakkfaa
open Go.RowKit
set_option linter.unusedVariables false
set_option linter.unusedSimpArgs false

/-- A policy's contents. -/
structure Pl where
  us : List Cl
  qs : List Qt
  g : Int
def zPl : Pl := ⟨[], [], 0⟩
/-- A policy behind a grant, and the error. -/
def apE (us : List Cl) (qs : List Qt) (g : Int) (x : Gr) : Int := if rightB us qs g = true then stE us g x else 8
def apP (us : List Cl) (qs : List Qt) (g : Int) (x : Gr) : Pl := if apE us qs g x = 0 then ⟨us.set x.u.toNat x.cl, qs, g - 1⟩ else zPl
theorem right_lens {us : List Cl} {qs : List Qt} {g : Int} (h : rightB us qs g = true) : us.length ≤ 8 ∧ qs.length ≤ 8 ∧ 0 ≤ g ∧ g ≤ 64 := by
  simp only [rightB, usersB, quotasB, inR, Bool.and_eq_true, decide_eq_true_eq] at h
  omega

set_option maxRecDepth 100000 in
set_option maxHeartbeats 1600000 in
theorem apply_of (v : Pl) (k : Int) (n' m' : Nat) (A : Option Addr) (n c : Nat) (B : Option Addr) (m d : Nat) (g : Int) (us : List Cl) (qs : List Qt) (u l0 l1 : Int) (b : Bool) (ht : Gr.typed ⟨u, l0, l1, b⟩)
    (hv : Hid (apP us qs g ⟨u, l0, l1, b⟩ = v ∧ apE us qs g ⟨u, l0, l1, b⟩ = k ∧ v.us.length = n' ∧ v.qs.length = m')) (w : World) (hp : Pol w A n c B m d g us qs) :
    Calls Try.prog 8 #[.agg #[.slice A n c, .slice B m d, .int .i64 g], .agg #[.int .i64 u, .int .u8 l0, .int .u32 l1, .bool b]] w fun e w' => ∃ A' c' B' d', e = .returned (.tuple #[.agg #[.slice A' n' c', .slice B' m' d', .int .i64 (v.g)], .int .i64 k]) ∧ OwnC w' w.heap.size A' c' v.us ∧ OwnQ w' w.heap.size B' d' v.qs ∧ Below w.heap.size w w' := by
  have hn := hp.hn
  have hm := hp.hm
  have HP := hid hp
  cases hq : rightB us qs g
  · have he : apE us qs g ⟨u, l0, l1, b⟩ = 8 := by rw [apE, if_neg (by simp [hq])]
    have hx := hv.out
    rw [apP, he, if_neg (by decide)] at hx
    obtain ⟨rfl, rfl, rfl, rfl⟩ := hx
    have HQ := hid hq
    clear hq hv he hn hm hp
    go_enter Try.func8, Try.ntmps8
    go_wp2_with fail
    refine (check_of false A n c B m d g us qs HQ _ (HP.out.keep (show Below w.heap.size w _ by go_grown))).mono ?_
    rintro e w1 ⟨rfl, b1⟩
    have e8 : er false = 8 := rfl
    rw [e8]
    (have s0 : w1.cell? ⟨w.heap.size + 1 + 1, 0, none⟩ = some (.slice none 0 0) := (keep b1 (by simp [go_sem])); have s1 : w1.cell? ⟨w.heap.size + 1 + 1, 1, none⟩ = some (.slice none 0 0) := (keep b1 (by simp [go_sem])); have s2 : w1.cell? ⟨w.heap.size + 1 + 1, 2, none⟩ = some (.int .i64 0) := (keep b1 (by simp [go_sem])))
    (have f0 : w1.frozen? ⟨w.heap.size + 1 + 1, 0, none⟩ = false := (keepz b1 (v := .slice none 0 0) (by simp [go_sem]) (by simp [go_sem])); have f1 : w1.frozen? ⟨w.heap.size + 1 + 1, 1, none⟩ = false := (keepz b1 (v := .slice none 0 0) (by simp [go_sem]) (by simp [go_sem])); have f2 : w1.frozen? ⟨w.heap.size + 1 + 1, 2, none⟩ = false := (keepz b1 (v := .int .i64 0) (by simp [go_sem]) (by simp [go_sem])))
    replace b1 := past_alloc3 b1
    go_wp2
    exact bodyPost_ret (v := .tuple #[.agg #[.slice none 0 0, .slice none 0 0, .int .i64 0], .int .i64 8]) (by simp [results, Try.results8, go_sem, s0, s1, s2]) rfl ⟨none, 0, none, 0, rfl, OwnC.nil _ _, OwnQ.nil _ _, set3 b1 (by omega) _ _ _⟩
  · have HQ := hid hq
    have hr := right_lens hq
    by_cases he : stE us g ⟨u, l0, l1, b⟩ = 0
    · have he2 : apE us qs g ⟨u, l0, l1, b⟩ = 0 := by rw [apE, if_pos hq, he]
      have hx := hv.out
      rw [apP, he2, if_pos rfl] at hx
      obtain ⟨rfl, rfl, hn', hm'⟩ := hx
      simp only [List.length_set] at hn' hm'
      have HN := hid (hn'.symm.trans hn)
      have HM := hid (hm'.symm.trans hm)
      obtain rfl := HN.out
      obtain rfl := HM.out
      have HE := hid he
      clear hq hv he he2 hn' hm' hp
      go_enter Try.func8, Try.ntmps8
      go_wp2_with fail
      refine (check_of true A n' c B m' d g us qs HQ _ (HP.out.keep (show Below w.heap.size w _ by go_grown))).mono ?_
      rintro e w1 ⟨rfl, b1⟩
      have e0 : er true = 0 := rfl
      rw [e0]
      (have p0 : w1.cell? ⟨w.heap.size, 0, none⟩ = some (.slice A n' c) := (keep b1 (by simp [go_sem])); have p1 : w1.cell? ⟨w.heap.size, 1, none⟩ = some (.slice B m' d) := (keep b1 (by simp [go_sem])); have p2 : w1.cell? ⟨w.heap.size, 2, none⟩ = some (.int .i64 g) := (keep b1 (by simp [go_sem])))
      (have t0 : w1.cell? ⟨w.heap.size + 1, 0, none⟩ = some (.int .i64 u) := (keep b1 (by simp [go_sem])); have t1 : w1.cell? ⟨w.heap.size + 1, 1, none⟩ = some (.int .u8 l0) := (keep b1 (by simp [go_sem])); have t2 : w1.cell? ⟨w.heap.size + 1, 2, none⟩ = some (.int .u32 l1) := (keep b1 (by simp [go_sem])); have t3 : w1.cell? ⟨w.heap.size + 1, 3, none⟩ = some (.bool b) := (keep b1 (by simp [go_sem])))
      (have s0 : w1.cell? ⟨w.heap.size + 1 + 1, 0, none⟩ = some (.slice none 0 0) := (keep b1 (by simp [go_sem])); have s1 : w1.cell? ⟨w.heap.size + 1 + 1, 1, none⟩ = some (.slice none 0 0) := (keep b1 (by simp [go_sem])); have s2 : w1.cell? ⟨w.heap.size + 1 + 1, 2, none⟩ = some (.int .i64 0) := (keep b1 (by simp [go_sem])))
      (have f0 : w1.frozen? ⟨w.heap.size + 1 + 1, 0, none⟩ = false := (keepz b1 (v := .slice none 0 0) (by simp [go_sem]) (by simp [go_sem])); have f1 : w1.frozen? ⟨w.heap.size + 1 + 1, 1, none⟩ = false := (keepz b1 (v := .slice none 0 0) (by simp [go_sem]) (by simp [go_sem])); have f2 : w1.frozen? ⟨w.heap.size + 1 + 1, 2, none⟩ = false := (keepz b1 (v := .int .i64 0) (by simp [go_sem]) (by simp [go_sem])))
      have hz1 : w.heap.size + 1 + 1 + 1 ≤ w1.heap.size := by have := b1.size; simpa using this
      replace b1 := past_alloc3 b1
      go_wp2_with fail
      refine (come_ok A n' c B m' d g us qs u l0 l1 b ht HE (by omega) (by omega) (by omega) _ (HP.out.keep b1)).mono ?_
      rintro e w2 ⟨A', c', B', d', rfl, hoc, hoq, b2⟩
      (replace f0 := keepz b2 s0 f0; replace f1 := keepz b2 s1 f1; replace f2 := keepz b2 s2 f2)
      (replace s0 := keep b2 s0; replace s1 := keep b2 s1; replace s2 := keep b2 s2)
      replace b1 := below_in b1 b2
      clear b2
      go_wp2_with fail
      refine (tell_pol A' n' c' B' m' d' (g - 1) _).mono ?_
      rintro e w3 ⟨rfl, b3⟩
      (replace f0 := keepz b3 s0 f0; replace f1 := keepz b3 s1 f1; replace f2 := keepz b3 s2 f2)
      (replace s0 := keep b3 s0; replace s1 := keep b3 s1; replace s2 := keep b3 s2)
      replace hoc := hoc.keep b3
      replace hoq := hoq.keep b3
      replace b1 := below_in b1 b3
      clear b3
      go_wp2
      exact bodyPost_ret (v := .tuple #[.agg #[.slice A' n' c', .slice B' m' d', .int .i64 (g - 1)], .int .i64 0]) (by simp [results, Try.results8, go_sem, s0, s1, s2]) rfl ⟨A', c', B', d', rfl, OwnC.mono (((hoc.set (by show w.heap.size + 1 + 1 < _; omega) _).set (by show w.heap.size + 1 + 1 < _; omega) _).set (by show w.heap.size + 1 + 1 < _; omega) _) (by omega), OwnQ.mono (((hoq.set (by show w.heap.size + 1 + 1 < _; omega) _).set (by show w.heap.size + 1 + 1 < _; omega) _).set (by show w.heap.size + 1 + 1 < _; omega) _) (by omega), set3 b1 (by omega) _ _ _⟩
    · have he2 : apE us qs g ⟨u, l0, l1, b⟩ = stE us g ⟨u, l0, l1, b⟩ := by rw [apE, if_pos hq]
      have hx := hv.out
      rw [apP, he2, if_neg he] at hx
      obtain ⟨rfl, hk, rfl, rfl⟩ := hx
      have HE := hid (show stE us g ⟨u, l0, l1, b⟩ = k ∧ k ≠ 0 from ⟨hk, hk ▸ he⟩)
      clear hq hv he he2 hp hk
      go_enter Try.func8, Try.ntmps8
      go_wp2_with fail
      refine (check_of true A n c B m d g us qs HQ _ (HP.out.keep (show Below w.heap.size w _ by go_grown))).mono ?_
      rintro e w1 ⟨rfl, b1⟩
      have e0 : er true = 0 := rfl
      rw [e0]
      (have p0 : w1.cell? ⟨w.heap.size, 0, none⟩ = some (.slice A n c) := (keep b1 (by simp [go_sem])); have p1 : w1.cell? ⟨w.heap.size, 1, none⟩ = some (.slice B m d) := (keep b1 (by simp [go_sem])); have p2 : w1.cell? ⟨w.heap.size, 2, none⟩ = some (.int .i64 g) := (keep b1 (by simp [go_sem])))
      (have t0 : w1.cell? ⟨w.heap.size + 1, 0, none⟩ = some (.int .i64 u) := (keep b1 (by simp [go_sem])); have t1 : w1.cell? ⟨w.heap.size + 1, 1, none⟩ = some (.int .u8 l0) := (keep b1 (by simp [go_sem])); have t2 : w1.cell? ⟨w.heap.size + 1, 2, none⟩ = some (.int .u32 l1) := (keep b1 (by simp [go_sem])); have t3 : w1.cell? ⟨w.heap.size + 1, 3, none⟩ = some (.bool b) := (keep b1 (by simp [go_sem])))
      (have s0 : w1.cell? ⟨w.heap.size + 1 + 1, 0, none⟩ = some (.slice none 0 0) := (keep b1 (by simp [go_sem])); have s1 : w1.cell? ⟨w.heap.size + 1 + 1, 1, none⟩ = some (.slice none 0 0) := (keep b1 (by simp [go_sem])); have s2 : w1.cell? ⟨w.heap.size + 1 + 1, 2, none⟩ = some (.int .i64 0) := (keep b1 (by simp [go_sem])))
      (have f0 : w1.frozen? ⟨w.heap.size + 1 + 1, 0, none⟩ = false := (keepz b1 (v := .slice none 0 0) (by simp [go_sem]) (by simp [go_sem])); have f1 : w1.frozen? ⟨w.heap.size + 1 + 1, 1, none⟩ = false := (keepz b1 (v := .slice none 0 0) (by simp [go_sem]) (by simp [go_sem])); have f2 : w1.frozen? ⟨w.heap.size + 1 + 1, 2, none⟩ = false := (keepz b1 (v := .int .i64 0) (by simp [go_sem]) (by simp [go_sem])))
      replace b1 := past_alloc3 b1
      go_wp2_with fail
      refine (come_err k A n c B m d g us qs u l0 l1 b ht HE _ (HP.out.keep b1)).mono ?_
      rintro e w2 ⟨rfl, b2⟩
      (replace f0 := keepz b2 s0 f0; replace f1 := keepz b2 s1 f1; replace f2 := keepz b2 s2 f2)
      (replace s0 := keep b2 s0; replace s1 := keep b2 s1; replace s2 := keep b2 s2)
      replace b1 := below_in b1 b2
      clear b2
      go_wp2_with fail
      refine (tell_err k _).mono ?_
      rintro e w3 ⟨rfl, b3⟩
      (replace f0 := keepz b3 s0 f0; replace f1 := keepz b3 s1 f1; replace f2 := keepz b3 s2 f2)
      (replace s0 := keep b3 s0; replace s1 := keep b3 s1; replace s2 := keep b3 s2)
      replace b1 := below_in b1 b3
      clear b3
      go_wp2
      exact bodyPost_ret (v := .tuple #[.agg #[.slice none 0 0, .slice none 0 0, .int .i64 0], .int .i64 k]) (by simp [results, Try.results8, go_sem, s0, s1, s2]) rfl ⟨none, 0, none, 0, rfl, OwnC.nil _ _, OwnQ.nil _ _, set3 b1 (by omega) _ _ _⟩
end Go.Proofs.Ytbigppdaoakkfaa
