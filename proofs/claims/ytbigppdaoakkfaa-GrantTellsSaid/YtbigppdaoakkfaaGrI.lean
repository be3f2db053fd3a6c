/-
  The contract of the reference's Apply.
-/
import Derived.Test.YtbigppdaoakkfaaGrF
import Derived.Test.YtbigppdaoakkfaaPoP
namespace Go.Proofs.Ytbigppdaoakkfaa
open Go.RowKit
set_option linter.unusedVariables false
set_option linter.unusedSimpArgs false

theorem apE_may {us : List Cl} {qs : List Qt} {g : Int} {x : Gr} (hr : rightB us qs g = true) (h : mayG x = true) : apE us qs g x = stE us g x := by rw [apE, if_pos hr]

set_option maxRecDepth 100000 in
set_option maxHeartbeats 1600000 in
theorem rapply_of (v : Pl) (k : Int) (n' m' : Nat) (A : Option Addr) (n c : Nat) (B : Option Addr) (m d : Nat) (g : Int) (us : List Cl) (qs : List Qt) (u l0 l1 : Int) (b : Bool) (ht : Gr.typed ⟨u, l0, l1, b⟩)
    (hv : Hid (apP us qs g ⟨u, l0, l1, b⟩ = v ∧ apE us qs g ⟨u, l0, l1, b⟩ = k ∧ v.us.length = n' ∧ v.qs.length = m')) (w : World) (hp : Pol w A n c B m d g us qs) :
    Calls Try.prog 19 #[.agg #[.slice A n c, .slice B m d, .int .i64 g], .agg #[.int .i64 u, .int .u8 l0, .int .u32 l1, .bool b]] w fun e w' => ∃ A' c' B' d', e = .returned (.tuple #[.agg #[.slice A' n' c', .slice B' m' d', .int .i64 (v.g)], .int .i64 k]) ∧ OwnC w' w.heap.size A' c' v.us ∧ OwnQ w' w.heap.size B' d' v.qs ∧ Below w.heap.size w w' := by
  have hn := hp.hn
  have hm := hp.hm
  have HP := hid hp
  cases hq : rightB us qs g
  · have he : apE us qs g ⟨u, l0, l1, b⟩ = 8 := by rw [apE, if_neg (by simp [hq])]
    have hx := hv.out
    rw [apP, he, if_neg (by decide)] at hx
    obtain ⟨rfl, rfl, rfl, rfl⟩ := hx
    have HQ := hid hq
    clear hq hv he hn hm hp
    go_enter Try.func19, Try.ntmps19
    go_wp2_with fail
    refine (rRight_of false A n c B m d g us qs HQ _ (HP.out.keep (show Below w.heap.size w _ by go_grown))).mono ?_
    rintro e w1 ⟨rfl, b1⟩
    (have s0 : w1.cell? ⟨w.heap.size + 1 + 1, 0, none⟩ = some (.slice none 0 0) := (keep b1 (by simp [go_sem])); have s1 : w1.cell? ⟨w.heap.size + 1 + 1, 1, none⟩ = some (.slice none 0 0) := (keep b1 (by simp [go_sem])); have s2 : w1.cell? ⟨w.heap.size + 1 + 1, 2, none⟩ = some (.int .i64 0) := (keep b1 (by simp [go_sem])))
    (have f0 : w1.frozen? ⟨w.heap.size + 1 + 1, 0, none⟩ = false := (keepz b1 (v := .slice none 0 0) (by simp [go_sem]) (by simp [go_sem])); have f1 : w1.frozen? ⟨w.heap.size + 1 + 1, 1, none⟩ = false := (keepz b1 (v := .slice none 0 0) (by simp [go_sem]) (by simp [go_sem])); have f2 : w1.frozen? ⟨w.heap.size + 1 + 1, 2, none⟩ = false := (keepz b1 (v := .int .i64 0) (by simp [go_sem]) (by simp [go_sem])))
    replace b1 := past_alloc3 b1
    go_wp2
    exact bodyPost_ret (v := .tuple #[.agg #[.slice none 0 0, .slice none 0 0, .int .i64 0], .int .i64 8]) (by simp [results, Try.results19, go_sem, s0, s1, s2]) rfl ⟨none, 0, none, 0, rfl, OwnC.nil _ _, OwnQ.nil _ _, set3 b1 (by omega) _ _ _⟩
  · have HQ := hid hq
    have hr := right_lens hq
    cases hg : mayG ⟨u, l0, l1, b⟩
    · have he : apE us qs g ⟨u, l0, l1, b⟩ = 8 := by rw [apE, if_pos hq, stE_bad hg]
      have hx := hv.out
      rw [apP, he, if_neg (by decide)] at hx
      obtain ⟨rfl, rfl, rfl, rfl⟩ := hx
      have HG := hid hg
      clear hq hv he hn hm hp hg
      go_enter Try.func19, Try.ntmps19
      go_wp2_with fail
      refine (rRight_of true A n c B m d g us qs HQ _ (HP.out.keep (show Below w.heap.size w _ by go_grown))).mono ?_
      rintro e w1 ⟨rfl, b1⟩
      (have t0 : w1.cell? ⟨w.heap.size + 1, 0, none⟩ = some (.int .i64 u) := (keep b1 (by simp [go_sem])); have t1 : w1.cell? ⟨w.heap.size + 1, 1, none⟩ = some (.int .u8 l0) := (keep b1 (by simp [go_sem])); have t2 : w1.cell? ⟨w.heap.size + 1, 2, none⟩ = some (.int .u32 l1) := (keep b1 (by simp [go_sem])); have t3 : w1.cell? ⟨w.heap.size + 1, 3, none⟩ = some (.bool b) := (keep b1 (by simp [go_sem])))
      (have s0 : w1.cell? ⟨w.heap.size + 1 + 1, 0, none⟩ = some (.slice none 0 0) := (keep b1 (by simp [go_sem])); have s1 : w1.cell? ⟨w.heap.size + 1 + 1, 1, none⟩ = some (.slice none 0 0) := (keep b1 (by simp [go_sem])); have s2 : w1.cell? ⟨w.heap.size + 1 + 1, 2, none⟩ = some (.int .i64 0) := (keep b1 (by simp [go_sem])))
      (have f0 : w1.frozen? ⟨w.heap.size + 1 + 1, 0, none⟩ = false := (keepz b1 (v := .slice none 0 0) (by simp [go_sem]) (by simp [go_sem])); have f1 : w1.frozen? ⟨w.heap.size + 1 + 1, 1, none⟩ = false := (keepz b1 (v := .slice none 0 0) (by simp [go_sem]) (by simp [go_sem])); have f2 : w1.frozen? ⟨w.heap.size + 1 + 1, 2, none⟩ = false := (keepz b1 (v := .int .i64 0) (by simp [go_sem]) (by simp [go_sem])))
      replace b1 := past_alloc3 b1
      go_wp2_with fail
      refine (rmay_of false u l0 l1 b HG _).mono ?_
      rintro e w2 ⟨rfl, b2⟩
      (replace f0 := keepz b2 s0 f0; replace f1 := keepz b2 s1 f1; replace f2 := keepz b2 s2 f2)
      (replace s0 := keep b2 s0; replace s1 := keep b2 s1; replace s2 := keep b2 s2)
      replace b1 := below_in b1 b2
      go_wp2
      exact bodyPost_ret (v := .tuple #[.agg #[.slice none 0 0, .slice none 0 0, .int .i64 0], .int .i64 8]) (by simp [results, Try.results19, go_sem, s0, s1, s2]) rfl ⟨none, 0, none, 0, rfl, OwnC.nil _ _, OwnQ.nil _ _, set3 b1 (by omega) _ _ _⟩
    · have HG := hid hg
      by_cases he : stE us g ⟨u, l0, l1, b⟩ = 0
      · have he2 : apE us qs g ⟨u, l0, l1, b⟩ = 0 := by rw [apE, if_pos hq, he]
        have hx := hv.out
        rw [apP, he2, if_pos rfl] at hx
        obtain ⟨rfl, rfl, hn', hm'⟩ := hx
        simp only [List.length_set] at hn' hm'
        have HN := hid (hn'.symm.trans hn)
        have HM := hid (hm'.symm.trans hm)
        obtain rfl := HN.out
        obtain rfl := HM.out
        have HE := hid he
        clear hq hv he he2 hn' hm' hp hg
        go_enter Try.func19, Try.ntmps19
        go_wp2_with fail
        refine (rRight_of true A n' c B m' d g us qs HQ _ (HP.out.keep (show Below w.heap.size w _ by go_grown))).mono ?_
        rintro e w1 ⟨rfl, b1⟩
        (have p0 : w1.cell? ⟨w.heap.size, 0, none⟩ = some (.slice A n' c) := (keep b1 (by simp [go_sem])); have p1 : w1.cell? ⟨w.heap.size, 1, none⟩ = some (.slice B m' d) := (keep b1 (by simp [go_sem])); have p2 : w1.cell? ⟨w.heap.size, 2, none⟩ = some (.int .i64 g) := (keep b1 (by simp [go_sem])))
        (have t0 : w1.cell? ⟨w.heap.size + 1, 0, none⟩ = some (.int .i64 u) := (keep b1 (by simp [go_sem])); have t1 : w1.cell? ⟨w.heap.size + 1, 1, none⟩ = some (.int .u8 l0) := (keep b1 (by simp [go_sem])); have t2 : w1.cell? ⟨w.heap.size + 1, 2, none⟩ = some (.int .u32 l1) := (keep b1 (by simp [go_sem])); have t3 : w1.cell? ⟨w.heap.size + 1, 3, none⟩ = some (.bool b) := (keep b1 (by simp [go_sem])))
        (have s0 : w1.cell? ⟨w.heap.size + 1 + 1, 0, none⟩ = some (.slice none 0 0) := (keep b1 (by simp [go_sem])); have s1 : w1.cell? ⟨w.heap.size + 1 + 1, 1, none⟩ = some (.slice none 0 0) := (keep b1 (by simp [go_sem])); have s2 : w1.cell? ⟨w.heap.size + 1 + 1, 2, none⟩ = some (.int .i64 0) := (keep b1 (by simp [go_sem])))
        (have f0 : w1.frozen? ⟨w.heap.size + 1 + 1, 0, none⟩ = false := (keepz b1 (v := .slice none 0 0) (by simp [go_sem]) (by simp [go_sem])); have f1 : w1.frozen? ⟨w.heap.size + 1 + 1, 1, none⟩ = false := (keepz b1 (v := .slice none 0 0) (by simp [go_sem]) (by simp [go_sem])); have f2 : w1.frozen? ⟨w.heap.size + 1 + 1, 2, none⟩ = false := (keepz b1 (v := .int .i64 0) (by simp [go_sem]) (by simp [go_sem])))
        have hz1 : w.heap.size + 1 + 1 + 1 ≤ w1.heap.size := by have := b1.size; simpa using this
        replace b1 := past_alloc3 b1
        go_wp2_with fail
        refine (rmay_of true u l0 l1 b HG _).mono ?_
        rintro e w2 ⟨rfl, b2⟩
        (replace f0 := keepz b2 s0 f0; replace f1 := keepz b2 s1 f1; replace f2 := keepz b2 s2 f2)
        (replace s0 := keep b2 s0; replace s1 := keep b2 s1; replace s2 := keep b2 s2)
        (replace p0 := keep b2 p0; replace p1 := keep b2 p1; replace p2 := keep b2 p2)
        (replace t0 := keep b2 t0; replace t1 := keep b2 t1; replace t2 := keep b2 t2; replace t3 := keep b2 t3)
        replace b1 := below_in b1 b2
        have hz2 := Nat.le_trans hz1 b2.size
        clear b2
        go_wp2_with fail
        refine (behind_ok A n' c B m' d g us qs u l0 l1 b ht HE (by omega) (by omega) (by omega) _ (HP.out.keep b1)).mono ?_
        rintro e w3 ⟨A', c', B', d', rfl, hoc, hoq, b3⟩
        (replace f0 := keepz b3 s0 f0; replace f1 := keepz b3 s1 f1; replace f2 := keepz b3 s2 f2)
        (replace s0 := keep b3 s0; replace s1 := keep b3 s1; replace s2 := keep b3 s2)
        replace b1 := below_in b1 b3
        have ha := (Below.refl _ w3).alloc (Nat.le_refl _) (.cells #[.slice A' n' c', .slice B' m' d', .int .i64 (g - 1)] 25)
        replace hoc := hoc.keep ha
        replace hoq := hoq.keep ha
        have hb := b1.alloc b1.size (.cells #[.slice A' n' c', .slice B' m' d', .int .i64 (g - 1)] 25)
        replace f0 := fun o => keepfa s0 f0 o
        replace f1 := fun o => keepfa s1 f1 o
        replace f2 := fun o => keepfa s2 f2 o
        (replace s0 := fun o => keepa s0 o; replace s1 := fun o => keepa s1 o; replace s2 := fun o => keepa s2 o)
        clear b3 ha
        go_wp2
        exact bodyPost_ret (v := .tuple #[.agg #[.slice A' n' c', .slice B' m' d', .int .i64 (g - 1)], .int .i64 0]) (by simp [results, Try.results19, go_sem, s0, s1, s2]) rfl ⟨A', c', B', d', rfl, OwnC.mono (((hoc.set (by show w.heap.size + 1 + 1 < _; omega) _).set (by show w.heap.size + 1 + 1 < _; omega) _).set (by show w.heap.size + 1 + 1 < _; omega) _) (by omega), OwnQ.mono (((hoq.set (by show w.heap.size + 1 + 1 < _; omega) _).set (by show w.heap.size + 1 + 1 < _; omega) _).set (by show w.heap.size + 1 + 1 < _; omega) _) (by omega), set3 hb (by omega) _ _ _⟩
      · have he2 : apE us qs g ⟨u, l0, l1, b⟩ = stE us g ⟨u, l0, l1, b⟩ := by rw [apE, if_pos hq]
        have hx := hv.out
        rw [apP, he2, if_neg he] at hx
        obtain ⟨rfl, hk, rfl, rfl⟩ := hx
        have HE := hid (show stE us g ⟨u, l0, l1, b⟩ = k ∧ k ≠ 0 from ⟨hk, hk ▸ he⟩)
        have hk0 : (k != 0) = true := by have := HE.out.2; simp [this]
        clear hq hv he he2 hp hk hg
        go_enter Try.func19, Try.ntmps19
        go_wp2_with fail
        refine (rRight_of true A n c B m d g us qs HQ _ (HP.out.keep (show Below w.heap.size w _ by go_grown))).mono ?_
        rintro e w1 ⟨rfl, b1⟩
        (have p0 : w1.cell? ⟨w.heap.size, 0, none⟩ = some (.slice A n c) := (keep b1 (by simp [go_sem])); have p1 : w1.cell? ⟨w.heap.size, 1, none⟩ = some (.slice B m d) := (keep b1 (by simp [go_sem])); have p2 : w1.cell? ⟨w.heap.size, 2, none⟩ = some (.int .i64 g) := (keep b1 (by simp [go_sem])))
        (have t0 : w1.cell? ⟨w.heap.size + 1, 0, none⟩ = some (.int .i64 u) := (keep b1 (by simp [go_sem])); have t1 : w1.cell? ⟨w.heap.size + 1, 1, none⟩ = some (.int .u8 l0) := (keep b1 (by simp [go_sem])); have t2 : w1.cell? ⟨w.heap.size + 1, 2, none⟩ = some (.int .u32 l1) := (keep b1 (by simp [go_sem])); have t3 : w1.cell? ⟨w.heap.size + 1, 3, none⟩ = some (.bool b) := (keep b1 (by simp [go_sem])))
        (have s0 : w1.cell? ⟨w.heap.size + 1 + 1, 0, none⟩ = some (.slice none 0 0) := (keep b1 (by simp [go_sem])); have s1 : w1.cell? ⟨w.heap.size + 1 + 1, 1, none⟩ = some (.slice none 0 0) := (keep b1 (by simp [go_sem])); have s2 : w1.cell? ⟨w.heap.size + 1 + 1, 2, none⟩ = some (.int .i64 0) := (keep b1 (by simp [go_sem])))
        (have f0 : w1.frozen? ⟨w.heap.size + 1 + 1, 0, none⟩ = false := (keepz b1 (v := .slice none 0 0) (by simp [go_sem]) (by simp [go_sem])); have f1 : w1.frozen? ⟨w.heap.size + 1 + 1, 1, none⟩ = false := (keepz b1 (v := .slice none 0 0) (by simp [go_sem]) (by simp [go_sem])); have f2 : w1.frozen? ⟨w.heap.size + 1 + 1, 2, none⟩ = false := (keepz b1 (v := .int .i64 0) (by simp [go_sem]) (by simp [go_sem])))
        replace b1 := past_alloc3 b1
        go_wp2_with fail
        refine (rmay_of true u l0 l1 b HG _).mono ?_
        rintro e w2 ⟨rfl, b2⟩
        (replace f0 := keepz b2 s0 f0; replace f1 := keepz b2 s1 f1; replace f2 := keepz b2 s2 f2)
        (replace s0 := keep b2 s0; replace s1 := keep b2 s1; replace s2 := keep b2 s2)
        (replace p0 := keep b2 p0; replace p1 := keep b2 p1; replace p2 := keep b2 p2)
        (replace t0 := keep b2 t0; replace t1 := keep b2 t1; replace t2 := keep b2 t2; replace t3 := keep b2 t3)
        replace b1 := below_in b1 b2
        clear b2
        go_wp2_with fail
        refine (behind_err k A n c B m d g us qs u l0 l1 b HG.out HE _ hn).mono ?_
        rintro e w3 ⟨rfl, b3⟩
        (replace f0 := keepz b3 s0 f0; replace f1 := keepz b3 s1 f1; replace f2 := keepz b3 s2 f2)
        (replace s0 := keep b3 s0; replace s1 := keep b3 s1; replace s2 := keep b3 s2)
        replace b1 := below_in b1 b3
        have hb := b1.alloc b1.size (.cells #[.slice A n c, .slice B m d, .int .i64 g] 25)
        replace f0 := fun o => keepfa s0 f0 o
        replace f1 := fun o => keepfa s1 f1 o
        replace f2 := fun o => keepfa s2 f2 o
        (replace s0 := fun o => keepa s0 o; replace s1 := fun o => keepa s1 o; replace s2 := fun o => keepa s2 o)
        clear b3
        go_wp2
        exact bodyPost_ret (v := .tuple #[.agg #[.slice none 0 0, .slice none 0 0, .int .i64 0], .int .i64 k]) (by simp [results, Try.results19, go_sem, s0, s1, s2]) rfl ⟨none, 0, none, 0, rfl, OwnC.nil _ _, OwnQ.nil _ _, set3 hb (by omega) _ _ _⟩
end Go.Proofs.Ytbigppdaoakkfaa
