/-
  The contract of the reference's Same.
-/
import Derived.Test.YtbigppdaoakkfaaPoS
namespace Go.Proofs.Ytbigppdaoakkfaa
open Go.RowKit
set_option linter.unusedVariables false
set_option linter.unusedSimpArgs false

theorem same_len {us vs : List Cl} {qs rs : List Qt} {g h : Int} (hh : us.length ≠ vs.length ∨ qs.length ≠ rs.length ∨ g ≠ h) : sameP us qs g vs rs h = false := by
  rw [Bool.eq_false_iff]
  intro hs
  simp only [sameP, sameUs, sameQs, Bool.and_eq_true, beq_iff_eq] at hs
  omega
theorem same_users {us vs : List Cl} {qs rs : List Qt} {g h : Int} {j : Nat} (hj : j < us.length) (hh : sameCl (us.getD j zC) (vs.getD j zC) = false) : sameP us qs g vs rs h = false := by
  rw [sameP, sameUs, allS_false hh _ hj]; simp
theorem same_quotas {us vs : List Cl} {qs rs : List Qt} {g h : Int} {j : Nat} (hj : j < qs.length) (hh : sameQt (qs.getD j zQ) (rs.getD j zQ) = false) : sameP us qs g vs rs h = false := by
  rw [sameP, sameQs, allS_false hh _ hj]; simp
theorem same_all {us vs : List Cl} {qs rs : List Qt} {g h : Int} (h1 : us.length = vs.length) (h2 : qs.length = rs.length) (h3 : g = h) (h4 : allS sameCl zC us vs us.length = true) (h5 : allS sameQt zQ qs rs qs.length = true) : sameP us qs g vs rs h = true := by
  rw [sameP, sameUs, sameQs, h4, h5]; simp [h1, h2, h3]

set_option maxRecDepth 100000 in
set_option maxHeartbeats 4000000 in
theorem rSame_of (q : Bool) (A : Option Addr) (n c : Nat) (B : Option Addr) (m d : Nat) (g : Int) (us : List Cl) (qs : List Qt) (A' : Option Addr) (n' c' : Nat) (B' : Option Addr) (m' d' : Nat) (g' : Int) (vs : List Cl) (rs : List Qt) (hq : Hid (sameP us qs g vs rs g' = q)) (w : World) (hp : Pol w A n c B m d g us qs) (hp' : Pol w A' n' c' B' m' d' g' vs rs) :
    Calls Try.prog 21 #[.agg #[.slice A n c, .slice B m d, .int .i64 g], .agg #[.slice A' n' c', .slice B' m' d', .int .i64 g']] w fun e w' => e = .returned (.bool q) ∧ Below w.heap.size w w' := by
  have HP := hid hp
  have HP' := hid hp'
  have hE := neq_clear
  have hE2 := neq_quota
  have hc2 : (c : Int) ≤ 9223372036854775807 := by have := hp.hu.cap; omega
  have hc1 : (n : Int) ≤ c := by have := hp.hu.len; have := hp.hn; omega
  have hd2 : (d : Int) ≤ 9223372036854775807 := by have := hp.hq.cap; omega
  have hd1 : (m : Int) ≤ d := by have := hp.hq.len; have := hp.hm; omega
  have hc2' : (c' : Int) ≤ 9223372036854775807 := by have := hp'.hu.cap; omega
  have hc1' : (n' : Int) ≤ c' := by have := hp'.hu.len; have := hp'.hn; omega
  have hd2' : (d' : Int) ≤ 9223372036854775807 := by have := hp'.hq.cap; omega
  have hd1' : (m' : Int) ≤ d' := by have := hp'.hq.len; have := hp'.hm; omega
  by_cases h1 : n = n'
  · by_cases h2 : m = m'
    · by_cases h3 : g = g'
      · subst h1 h2 h3
        clear hp hp'
        go_enter Try.func21, Try.ntmps21
        go_wp2_with fail
        generalize hW : (w.alloc _).alloc _ = W
        have hbW : Below w.heap.size w W := by subst hW; go_grown
        (have s0 : W.cell? ⟨w.heap.size, 0, none⟩ = some (.slice A n c) := ((by subst hW; simp [go_sem])); have s1 : W.cell? ⟨w.heap.size, 1, none⟩ = some (.slice B m d) := ((by subst hW; simp [go_sem])); have s2 : W.cell? ⟨w.heap.size, 2, none⟩ = some (.int .i64 g) := ((by subst hW; simp [go_sem])))
        (have t0 : W.cell? ⟨w.heap.size + 1, 0, none⟩ = some (.slice A' n c') := ((by subst hW; simp [go_sem])); have t1 : W.cell? ⟨w.heap.size + 1, 1, none⟩ = some (.slice B' m d') := ((by subst hW; simp [go_sem])); have t2 : W.cell? ⟨w.heap.size + 1, 2, none⟩ = some (.int .i64 g) := ((by subst hW; simp [go_sem])))
        clear hW
        go_loopw [5] (fun i wr => ∃ (j : Nat), j ≤ n ∧ i = .int .i64 (j : Int) ∧ Hid (allS sameCl zC us vs j = true) ∧ Below W.heap.size W wr) (fun i _ => n - (intOf i).toNat)
        case atStart => exact ⟨0, by omega, rfl, hid rfl, Below.refl _ _⟩
        case round =>
          obtain ⟨j, hj, rfl, hp, hb⟩ := hrel
          have hbw := below_in hbW hb
          (have u0 := keep hb s0; have u1 := keep hb s1; have u2 := keep hb s2)
          (have v0 := keep hb t0; have v1 := keep hb t1; have v2 := keep hb t2)
          by_cases hlt : j < n
          · have hl := HP.out.hn
            have hl' := HP'.out.hn
            obtain ⟨b, o, rfl, hcell⟩ := (HP.out.hu.keep hbw).at_ (by omega)
            obtain ⟨b', o', rfl, hcell'⟩ := (HP'.out.hu.keep hbw).at_ (by omega)
            obtain ⟨k0, k1, k2, ht⟩ := hcell j (by omega)
            obtain ⟨m0, m1, m2, ht'⟩ := hcell' j (by omega)
            have hs : allS sameCl zC us vs (j + 1) = (allS sameCl zC us vs j && sameCl (us[j]'(by omega)) (vs[j]'(by omega))) := by rw [allS, getD_at us zC j (by omega), getD_at vs zC j (by omega)]
            have hF := fun (h : sameCl (us[j]'(by omega)) (vs[j]'(by omega)) = false) => same_users (us := us) (vs := vs) (qs := qs) (rs := rs) (g := g) (h := g) (j := j) (by omega) (by rw [getD_at us zC j (by omega), getD_at vs zC j (by omega)]; exact h)
            generalize us[j]'(by omega) = x at k0 k1 k2 ht hs hF
            generalize vs[j]'(by omega) = y at m0 m1 m2 ht' hs hF
            obtain ⟨x0, x1, x2⟩ := x
            obtain ⟨y0, y1, y2⟩ := y
            have hlt2 : (j : Int) < (n : Int) := by omega
            have HS := hid hs
            have HF := hid hF
            clear hs hF hcell hcell' hl hl' ht ht' s0 s1 s2 t0 t1 t2
            cases hd : sameC x0 x1 x2 y0 y1 y2
            · have HD := hid hd
              go_wp2_with fail
              (have f0 := Past.all u0; have f1 := Past.all u1; have f2 := Past.all u2)
              (have p0 := Past.all v0; have p1 := Past.all v1; have p2 := Past.all v2)
              (have e0 := Past.all k0; have e1 := Past.all k1; have e2 := Past.all k2)
              (have r0 := Past.all m0; have r1 := Past.all m1; have r2 := Past.all m2)
              refine wp_region_past (by kernel_rfl) (by kernel_rfl) ?_
              repeat (go_big_quiet_step (fail))
              refine wpQuiet_nil ?_
              rintro w4 ⟨⟨_, hx⟩, rfl⟩
              replace hbw := below_in hbw hx
              clear f0 f1 f2 p0 p1 p2 e0 e1 e2 r0 r1 r2
              go_wp2
              go_ret
              exact ⟨ret_bool (by rw [← hq.out, HF.out HD.out]), hbw⟩
            · have HD := hid hd
              go_wp2_with fail
              (have f0 := Past.all u0; have f1 := Past.all u1; have f2 := Past.all u2)
              (have p0 := Past.all v0; have p1 := Past.all v1; have p2 := Past.all v2)
              (have e0 := Past.all k0; have e1 := Past.all k1; have e2 := Past.all k2)
              (have r0 := Past.all m0; have r1 := Past.all m1; have r2 := Past.all m2)
              refine wp_region_past (by kernel_rfl) (by kernel_rfl) ?_
              repeat (go_big_quiet_step (fail))
              refine wpQuiet_nil ?_
              rintro w4 ⟨⟨_, hx⟩, rfl⟩
              replace hb := below_in hb hx
              clear f0 f1 f2 p0 p1 p2 e0 e1 e2 r0 r1 r2
              go_wp2
              go_roundw
              case rel => exact ⟨j + 1, by omega, by go_num, hid (by rw [HS.out, hp.out]; exact HD.out), hb⟩
              case measure => simp [intOf]; omega
          · obtain rfl : j = n := by omega
            have HU := hp
            clear hp hj hlt
            go_wp2_with fail
            clear u0 u1 u2 v0 v1 v2
            go_loopw [6] (fun i wr => ∃ (k : Nat), k ≤ m ∧ i = .int .i64 (k : Int) ∧ Hid (allS sameQt zQ qs rs k = true) ∧ Below W.heap.size W wr) (fun i _ => m - (intOf i).toNat)
            case atStart => exact ⟨0, by omega, rfl, hid rfl, hb⟩
            case round =>
              obtain ⟨k, hk, rfl, hp, hb⟩ := hrel
              have hbw := below_in hbW hb
              (have u0 := keep hb s0; have u1 := keep hb s1; have u2 := keep hb s2)
              (have v0 := keep hb t0; have v1 := keep hb t1; have v2 := keep hb t2)
              by_cases hlt : k < m
              · have hl := HP.out.hm
                have hl' := HP'.out.hm
                obtain ⟨b, o, rfl, hcell⟩ := (HP.out.hq.keep hbw).at_ (by omega)
                obtain ⟨b', o', rfl, hcell'⟩ := (HP'.out.hq.keep hbw).at_ (by omega)
                obtain ⟨k0, k1, k2, k3, k4, ht⟩ := hcell k (by omega)
                obtain ⟨m0, m1, m2, m3, m4, ht'⟩ := hcell' k (by omega)
                have hs : allS sameQt zQ qs rs (k + 1) = (allS sameQt zQ qs rs k && sameQt (qs[k]'(by omega)) (rs[k]'(by omega))) := by rw [allS, getD_at qs zQ k (by omega), getD_at rs zQ k (by omega)]
                have hF := fun (h : sameQt (qs[k]'(by omega)) (rs[k]'(by omega)) = false) => same_quotas (us := us) (vs := vs) (qs := qs) (rs := rs) (g := g) (h := g) (j := k) (by omega) (by rw [getD_at qs zQ k (by omega), getD_at rs zQ k (by omega)]; exact h)
                generalize qs[k]'(by omega) = x at k0 k1 k2 k3 k4 ht hs hF
                generalize rs[k]'(by omega) = y at m0 m1 m2 m3 m4 ht' hs hF
                obtain ⟨x0, x1, x2, x3, x4⟩ := x
                obtain ⟨y0, y1, y2, y3, y4⟩ := y
                have hlt2 : (k : Int) < (m : Int) := by omega
                have HS := hid hs
                have HF := hid hF
                clear hs hF hcell hcell' hl hl' ht ht' s0 s1 s2 t0 t1 t2
                cases hd : sameQ x0 x1 x2 x3 x4 y0 y1 y2 y3 y4
                · have HD := hid hd
                  go_wp2_with fail
                  (have f0 := Past.all u0; have f1 := Past.all u1; have f2 := Past.all u2)
                  (have p0 := Past.all v0; have p1 := Past.all v1; have p2 := Past.all v2)
                  (have e0 := Past.all k0; have e1 := Past.all k1; have e2 := Past.all k2; have e3 := Past.all k3; have e4 := Past.all k4)
                  (have r0 := Past.all m0; have r1 := Past.all m1; have r2 := Past.all m2; have r3 := Past.all m3; have r4 := Past.all m4)
                  refine wp_region_past (by kernel_rfl) (by kernel_rfl) ?_
                  repeat (go_big_quiet_step (fail))
                  refine wpQuiet_nil ?_
                  rintro w4 ⟨⟨_, hx⟩, rfl⟩
                  replace hbw := below_in hbw hx
                  clear f0 f1 f2 p0 p1 p2 e0 e1 e2 e3 e4 r0 r1 r2 r3 r4
                  go_wp2
                  go_ret
                  exact ⟨ret_bool (by rw [← hq.out, HF.out HD.out]), hbw⟩
                · have HD := hid hd
                  go_wp2_with fail
                  (have f0 := Past.all u0; have f1 := Past.all u1; have f2 := Past.all u2)
                  (have p0 := Past.all v0; have p1 := Past.all v1; have p2 := Past.all v2)
                  (have e0 := Past.all k0; have e1 := Past.all k1; have e2 := Past.all k2; have e3 := Past.all k3; have e4 := Past.all k4)
                  (have r0 := Past.all m0; have r1 := Past.all m1; have r2 := Past.all m2; have r3 := Past.all m3; have r4 := Past.all m4)
                  refine wp_region_past (by kernel_rfl) (by kernel_rfl) ?_
                  repeat (go_big_quiet_step (fail))
                  refine wpQuiet_nil ?_
                  rintro w4 ⟨⟨_, hx⟩, rfl⟩
                  replace hb := below_in hb hx
                  clear f0 f1 f2 p0 p1 p2 e0 e1 e2 e3 e4 r0 r1 r2 r3 r4
                  go_wp2
                  go_roundw
                  case rel => exact ⟨k + 1, by omega, by go_num, hid (by rw [HS.out, hp.out]; exact HD.out), hb⟩
                  case measure => simp [intOf]; omega
              · obtain rfl : k = m := by omega
                have HV := hid (show q = true by rw [← hq.out]; exact same_all (by rw [HP.out.hn, HP'.out.hn]) (by rw [HP.out.hm, HP'.out.hm]) rfl (by rw [HP.out.hn]; exact HU.out) (by rw [HP.out.hm]; exact hp.out))
                go_wp2
                go_ret
                exact ⟨ret_bool HV.out.symm, hbw⟩
      · have z1 : ((n : Int) != (n' : Int)) = false := by simp; omega
        have z2 : ((m : Int) != (m' : Int)) = false := by simp; omega
        have z3 : (g != g') = true := by simpa using h3
        have HV := hid (show q = false by rw [← hq.out]; exact same_len (.inr (.inr h3)))
        clear hp hp' h1 h2 h3
        go_enter Try.func21, Try.ntmps21
        go_wp2
        go_ret
        exact ⟨ret_bool HV.out.symm, by go_grown⟩
    · have z1 : ((n : Int) != (n' : Int)) = false := by simp; omega
      have z2 : ((m : Int) != (m' : Int)) = true := by simp; omega
      have HV := hid (show q = false by rw [← hq.out]; exact same_len (.inr (.inl (by rw [hp.hm, hp'.hm]; exact h2))))
      clear hp hp' h1 h2
      go_enter Try.func21, Try.ntmps21
      go_wp2
      go_ret
      exact ⟨ret_bool HV.out.symm, by go_grown⟩
  · have z1 : ((n : Int) != (n' : Int)) = true := by simp; omega
    have HV := hid (show q = false by rw [← hq.out]; exact same_len (.inl (by rw [hp.hn, hp'.hn]; exact h1)))
    clear hp hp' h1
    go_enter Try.func21, Try.ntmps21
    go_wp2
    go_ret
    exact ⟨ret_bool HV.out.symm, by go_grown⟩
end Go.Proofs.Ytbigppdaoakkfaa
