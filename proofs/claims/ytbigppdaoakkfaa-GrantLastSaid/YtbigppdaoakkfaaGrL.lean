/-
  Of several grants the last one of a user that came counts, and no quota is turned; as many come as Grants tells; what is answered may be: the statement GrantLast, for every policy, grants and user. Conditions: the statement's own (at most 100 users and quotas, 300 grants).
-/
import Derived.Test.YtbigppdaoakkfaaGrK
import Derived.Test.YtbigppdaoakkfaaGrQ
import Derived.BigRegion
namespace Go.Proofs.Ytbigppdaoakkfaa
open Go.ChangeShapes Go.WideShapes Go.ChangeAt Go.RowKit Go.Joins
set_option linter.unusedVariables false
set_option linter.unusedSimpArgs false

set_option maxRecDepth 100000 in
set_option maxHeartbeats 8000000 in
theorem glast_walk (A : Option Addr) (n c : Nat) (B : Option Addr) (m d : Nat) (g : Int) (us : List Cl) (qs : List Qt) (G : Option Addr) (p q : Nat) (l : List Gr) (u : Int) (hu : In64 u) (w : World) (hr : Pol w A n c B m d g us qs) (hs : Grs w G p q l) :
    Calls Try.prog 6 #[.agg #[.slice A n c, .slice B m d, .int .i64 g], .slice G p q, .int .i64 u] w fun e w' => e = .returned (.bool true) ∧ Below w.heap.size w w' := by
  generalize hGr : decide (100 < n ∨ 100 < m) = Y
  have HG := hid hGr
  have HP := hid hr
  have HL := hid hs
  have HU := hid hu
  have hEC := eql_clear
  have hNQ := neq_quota
  clear hGr hr hs hu
  go_enter Try.func6, Try.ntmps6
  go_wp2_with fail
  refine (alive_any _).mono ?_
  rintro e w1 ⟨rfl, b1⟩
  (have s0 : w1.cell? ⟨w.heap.size, 0, none⟩ = some (.slice A n c) := (keep b1 (by simp [go_sem])); have s1 : w1.cell? ⟨w.heap.size, 1, none⟩ = some (.slice B m d) := (keep b1 (by simp [go_sem])); have s2 : w1.cell? ⟨w.heap.size, 2, none⟩ = some (.int .i64 g) := (keep b1 (by simp [go_sem])))
  have hb := past_alloc b1
  clear b1
  go_wp2_with fail
  refine (great_of Y A n c B m d g HG _).mono ?_
  rintro e w2 ⟨rfl, b2⟩
  (replace s0 := keep b2 s0; replace s1 := keep b2 s1; replace s2 := keep b2 s2)
  replace hb := below_in hb b2
  clear b2
  cases Y
  case true =>
    go_wp2
    go_ret
    exact ⟨rfl, hb⟩
  clear HG
  by_cases h1 : 300 < p
  · have d1 : decide ((300 : Int) < (p : Int)) = true := decide_eq_true (by omega)
    clear h1
    go_wp2
    go_ret
    exact ⟨rfl, hb⟩
  have d1 : decide ((300 : Int) < (p : Int)) = false := decide_eq_false (by omega)
  cases hR : rightB us qs g
  · have HR := hid hR
    have HV : Hid (ruP us qs g l = zPl ∧ ruS us qs g l = [] ∧ ruE us qs g l = 8 ∧ zPl.us.length = 0 ∧ zPl.qs.length = 0 ∧ ([] : List Int).length = 0) := hid (by
      have e8 : ruE us qs g l = 8 := by rw [ruE, hR, if_neg (by decide)]
      exact ⟨by rw [ruP, e8, if_neg (by decide)], by rw [ruS, e8, if_neg (by decide)], e8, rfl, rfl, rfl⟩)
    clear hR h1
    go_wp2_with fail
    refine (run_of zPl [] 8 0 0 0 A n c B m d g us qs G p q l HV _ (HP.out.keep hb) (HL.out.keep hb)).mono ?_
    rintro e w3 ⟨A', c', B', d', E, e', rfl, -, -, -, b3⟩
    (replace s0 := keep b3 s0; replace s1 := keep b3 s1; replace s2 := keep b3 s2)
    replace hb := below_in hb b3
    clear b3 d1 HV
    (replace s0 := fun o => keepa s0 o; replace s1 := fun o => keepa s1 o; replace s2 := fun o => keepa s2 o)
    go_wp2_with fail
    refine (check_of false A n c B m d g us qs HR _ (HP.out.keep (hb.alloc hb.size _))).mono ?_
    rintro e w4 ⟨rfl, b4⟩
    have e8 : er false = 8 := rfl
    rw [e8]
    replace hb := below_in hb (past_alloc b4)
    go_wp2
    go_ret
    exact ⟨rfl, hb⟩
  have hls := right_lens hR
  have hqn := HP.out.hn
  have hqm := HP.out.hm
  have hlp := HL.out.hn
  obtain ⟨⟨U, γ, es⟩, hS⟩ : ∃ s, rn us g l p = s := ⟨_, rfl⟩
  have hlu : U.length = n := by have := (rn_length us g l p).1; rw [hS] at this; exact this.trans hqn
  have hle : es.length = p := by have := (rn_length us g l p).2; rw [hS] at this; exact this
  have hγ : 0 ≤ γ ∧ γ ≤ g := by have := rn_g us g l hls.2.2.1 p; rw [hS] at this; exact this
  have HV : Hid (ruP us qs g l = ⟨U, qs, γ⟩ ∧ ruS us qs g l = es ∧ ruE us qs g l = 0 ∧ U.length = n ∧ qs.length = m ∧ es.length = p) := hid (by
    have e0 : ruE us qs g l = 0 := by rw [ruE, hR, if_pos rfl, if_neg (by omega)]
    refine ⟨by rw [ruP, e0, if_pos rfl, hlp, hS], by rw [ruS, e0, if_pos rfl, hlp, hS], e0, hlu, hqm, hle⟩)
  have HR2 : Hid (rightB U qs γ = true) := hid (by have := rn_right l hR p; rw [hS] at this; exact this)
  have HES : Hid (∀ j, j < p → es[j]? = some (stE (rn us g l j).us (rn us g l j).g (l.getD j zG))) := hid (fun j hj => by have := rn_es us g l p j hj; rw [hS] at this; exact this)
  have HS := hid hS
  have HLS := hid hls
  have Hle := hid hle
  have Hγ := hid hγ
  have Hlu := hid hlu
  clear hR h1 hqn hqm hls hS hle hγ hlu hlp
  go_wp2_with fail
  refine (run_of ⟨U, qs, γ⟩ es 0 n m p A n c B m d g us qs G p q l HV _ (HP.out.keep hb) (HL.out.keep hb)).mono ?_
  rintro e w3 ⟨A', c', B', d', E, e', rfl, ho, hq, he, b3⟩
  (replace s0 := keep b3 s0; replace s1 := keep b3 s1; replace s2 := keep b3 s2)
  replace hb := below_in hb b3
  have HQ : Pol w3 A' n c' B' m d' γ U qs := ⟨Hlu.out, HP.out.hm, ho.rd, hq.rd, ⟨by have := Hγ.out; omega, by have := Hγ.out; have := HLS.out; omega⟩⟩
  clear b3 d1 HV ho hq
  go_wp2_with fail
  generalize hW : w3.alloc _ = W
  have hbW : Below w3.heap.size w3 W := by rw [← hW]; go_grown
  (have z0 : W.cell? ⟨w3.heap.size, 0, none⟩ = some (.slice A' n c') := ((by rw [← hW]; simp [go_sem])); have z1 : W.cell? ⟨w3.heap.size, 1, none⟩ = some (.slice B' m d') := ((by rw [← hW]; simp [go_sem])); have z2 : W.cell? ⟨w3.heap.size, 2, none⟩ = some (.int .i64 γ) := ((by rw [← hW]; simp [go_sem])))
  clear hW
  (replace s0 := keep hbW s0; replace s1 := keep hbW s1; replace s2 := keep hbW s2)
  replace he := Rds.keep hbW he
  replace HQ := HQ.keep hbW
  replace hb := below_in hb hbW
  clear hbW
  refine (check_of true A' n c' B' m d' γ U qs HR2 _ HQ).mono ?_
  rintro e w4 ⟨rfl, b4⟩
  have e0 : er true = 0 := rfl
  rw [e0]
  (replace s0 := keep b4 s0; replace s1 := keep b4 s1; replace s2 := keep b4 s2)
  (replace z0 := keep b4 z0; replace z1 := keep b4 z1; replace z2 := keep b4 z2)
  replace he := Rds.keep b4 he
  replace HQ := HQ.keep b4
  replace hb := below_in hb b4
  clear b4 HR2 e0
  go_wp2_with fail
  have ie1 : (p : Int) ≤ (e' : Int) := by have := RdE.len he; have := Hle.out; omega
  have ie2 : (e' : Int) ≤ 9223372036854775807 := by have := RdE.cap he; omega
  have HE := hid he
  have HQQ := hid HQ
  clear he HQ
  go_loop [11, 12] (fun x i => ∃ (j : Nat) (y : Int), j ≤ p ∧ i = .int .i64 (j : Int) ∧ x = .int .i64 y ∧ 0 ≤ y ∧ y ≤ 64 ∧ Hid (y + (rn us g l j).g = g)) (fun _ i => p - (intOf i).toNat)
  case atStart => exact ⟨0, 0, by omega, rfl, rfl, by omega, by omega, hid (show (0 : Int) + g = g by omega)⟩
  case round =>
    obtain ⟨j, y, hj, rfl, rfl, y0, y1, hy⟩ := hrel
    by_cases hlt : j < p
    · have hl := Hle.out
      have hes := HES.out j hlt
      have hcm := rn_came us g l j
      have hg1 := rn_g us g l HLS.out.2.2.1 (j + 1)
      have hg64 := HLS.out.2.2.2
      obtain ⟨b1, o1, rfl, hcell⟩ := RdE.at_ HE.out (by omega)
      have k0 := hcell j (by omega)
      rw [List.getElem?_eq_getElem (by omega)] at hes
      rw [Option.some.inj hes] at k0
      have h9 := fun h => stE_nine (us := (rn us g l j).us) (g := (rn us g l j).g) (x := l.getD j zG) h
      generalize stE (rn us g l j).us (rn us g l j).g (l.getD j zG) = z at k0 hcm h9
      have hlt2 : (j : Int) < (p : Int) := by omega
      clear hcell hl hes
      by_cases hz : z = 0
      · subst hz
        rw [if_pos rfl] at hcm
        have hy2 : Hid (y + 1 + (rn us g l (j + 1)).g = g) := hid (by have := hy.out; omega)
        have hy3 : y + 1 ≤ 64 := by have := hy2.out; omega
        clear hy h9 hcm hg1 hg64
        go_wp2_with fail
        exact ⟨⟨j + 1, y + 1, by omega, by go_num, by go_num, by omega, by omega, hy2⟩, by simp [intOf]; omega⟩
      · rw [if_neg hz] at hcm
        have hy2 : Hid (y + (rn us g l (j + 1)).g = g) := hid (by rw [hcm]; exact hy.out)
        have hz1 : (z == 0) = false := by simp [hz]
        by_cases hn : z = 9
        · subst hn
          have hyg : y = g := by have := hy.out; have := h9 rfl; omega
          subst hyg
          clear hy h9 hcm hz hz1 hg1 hg64
          go_wp2_with fail
          exact ⟨⟨j + 1, y, by omega, by go_num, rfl, by omega, by omega, hy2⟩, by simp [intOf]; omega⟩
        · have hz2 : (z == 9) = false := by simp [hn]
          clear hy h9 hcm hz hn hg1 hg64
          go_wp2_with fail
          exact ⟨⟨j + 1, y, by omega, by go_num, rfl, by omega, by omega, hy2⟩, by simp [intOf]; omega⟩
    · obtain rfl : j = p := by omega
      have hyγ : y + γ = g := by have := hy.out; rw [HS.out] at this; exact this
      clear hj hlt hy
      go_wp2_with fail
      have hmm : m ≤ 100 := by have := HLS.out.2.1; have := HP.out.hm; omega
      have id1 : (m : Int) ≤ (d : Int) := by have := HP.out.hq.len; have := HP.out.hm; omega
      have id2 : (d : Int) ≤ 9223372036854775807 := by have := HP.out.hq.cap; omega
      have id3 : (m : Int) ≤ (d' : Int) := by have := HQQ.out.hq.len; have := HQQ.out.hm; omega
      have id4 : (d' : Int) ≤ 9223372036854775807 := by have := HQQ.out.hq.cap; omega
      go_loopw [13] (fun i wr => ∃ (k : Nat), k ≤ m ∧ i = .int .i64 (k : Int) ∧ Below w4.heap.size w4 wr) (fun i _ => m - (intOf i).toNat)
      case atStart => exact ⟨0, by omega, rfl, Below.refl _ _⟩
      case round =>
        obtain ⟨k, hk, rfl, hbr⟩ := hrel
        (have t0 := keep hbr s0; have t1 := keep hbr s1; have t2 := keep hbr s2)
        (have v0 := keep hbr z0; have v1 := keep hbr z1; have v2 := keep hbr z2)
        have hbw := below_in hb hbr
        by_cases hlt : k < m
        · have hl := HP.out.hm
          obtain ⟨b1, o1, rfl, hcell⟩ := (HP.out.hq.keep hbw).at_ (by omega)
          obtain ⟨b2, o2, rfl, hcell'⟩ := (HQQ.out.hq.keep hbr).at_ (by omega)
          obtain ⟨k0, k1, k2, k3, k4, -⟩ := hcell k (by omega)
          obtain ⟨m0, m1, m2, m3, m4, -⟩ := hcell' k (by omega)
          generalize qs[k]'(by omega) = x at k0 k1 k2 k3 k4 m0 m1 m2 m3 m4
          obtain ⟨x0, x1, x2, x3, x4⟩ := x
          have hsq : sameQ x0 x1 x2 x3 x4 x0 x1 x2 x3 x4 = true := by simp [sameQ]
          have hlt2 : (k : Int) < (m : Int) := by omega
          clear hcell hcell' hl s0 s1 s2 z0 z1 z2 hEC
          go_wp2_with fail
          (have fa0 := Past.all t0; have fa1 := Past.all t1; have fa2 := Past.all t2)
          (have fb0 := Past.all v0; have fb1 := Past.all v1; have fb2 := Past.all v2)
          (have fc0 := Past.all k0; have fc1 := Past.all k1; have fc2 := Past.all k2; have fc3 := Past.all k3; have fc4 := Past.all k4)
          (have fd0 := Past.all m0; have fd1 := Past.all m1; have fd2 := Past.all m2; have fd3 := Past.all m3; have fd4 := Past.all m4)
          refine wp_region_past (by kernel_rfl) (by kernel_rfl) ?_
          repeat (go_big_quiet_step (fail))
          refine wpQuiet_nil ?_
          rintro w8 ⟨⟨_, hx⟩, rfl⟩
          replace hbr := below_in hbr hx
          clear fa0 fa1 fa2 fb0 fb1 fb2 fc0 fc1 fc2 fc3 fc4 fd0 fd1 fd2 fd3 fd4 k0 k1 k2 k3 k4 m0 m1 m2 m3 m4
          go_wp2
          go_roundw
          case rel => exact ⟨k + 1, by omega, by go_num, hbr⟩
          case measure => simp [intOf]; omega
        · obtain rfl : k = m := by omega
          clear hk hlt s0 s1 s2 z0 z1 z2 hNQ
          have hsub : wrap64 (g - y) = γ := by rw [wrap64_id (by have := Hγ.out; omega) (by have := Hγ.out; have := HLS.out; omega)]; omega
          have dgy : decide (g < y) = false := decide_eq_false (by have := Hγ.out; omega)
          have dle : decide (y ≤ g) = true := decide_eq_true (by have := Hγ.out; omega)
          by_cases hu0 : u < 0
          · have du : decide (u < 0) = true := decide_eq_true hu0
            clear hu0
            go_wp2
            go_ret
            exact ⟨rfl, hbw⟩
          have du : decide (u < 0) = false := decide_eq_false hu0
          by_cases hu1 : (n : Int) ≤ u
          · have dn : decide ((n : Int) ≤ u) = true := decide_eq_true hu1
            clear hu0 hu1
            go_wp2
            go_ret
            exact ⟨rfl, hbw⟩
          have dn : decide ((n : Int) ≤ u) = false := decide_eq_false hu1
          obtain ⟨uN, rfl⟩ : ∃ uN : Nat, u = (uN : Int) := ⟨u.toNat, by omega⟩
          have hun : uN < n := by omega
          have hlu := Hlu.out
          have hqn := HP.out.hn
          obtain ⟨b1, o1, rfl, hcell⟩ := (HP.out.hu.keep hbw).at_ (by omega)
          obtain ⟨b2, o2, rfl, hcell'⟩ := (HQQ.out.hu.keep hbr).at_ (by omega)
          obtain ⟨k0, k1, k2, -⟩ := hcell uN (by omega)
          obtain ⟨m0, m1, m2, -⟩ := hcell' uN (by omega)
          have hx := getD_at us zC uN (by omega)
          have hy := getD_at U zC uN (by omega)
          generalize us[uN]'(by omega) = x at k0 k1 k2 hx
          generalize U[uN]'(by omega) = xx at m0 m1 m2 hy
          obtain ⟨x0, x1, x2⟩ := x
          obtain ⟨y0', y1', y2'⟩ := xx
          have hlt2 : (uN : Int) < (n : Int) := by omega
          have ic1 : (n : Int) ≤ (c : Int) := by have := HP.out.hu.len; omega
          have ic2 : (c : Int) ≤ 9223372036854775807 := by have := HP.out.hu.cap; omega
          have ic3 : (n : Int) ≤ (c' : Int) := by have := HQQ.out.hu.len; omega
          have ic4 : (c' : Int) ≤ 9223372036854775807 := by have := HQQ.out.hu.cap; omega
          have HXU := hid hx
          have HYU : Hid ((rn us g l j).us.getD uN zC = ⟨y0', y1', y2'⟩) := hid (by rw [HS.out]; exact hy)
          clear hcell hcell' hlu hqn hx hy hu0 hu1
          go_wp2_with fail
          clear hsub dgy dle du dn
          have hcs : sameC y0' y1' y2' y0' y1' y2' = true := by simp [sameC]
          go_loopw [15] (fun i wt => ∃ (t : Nat) (a0 a1 : Int) (a2 : Bool), t ≤ j ∧ i = .int .i64 (t : Int) ∧ Hid ((rn us g l t).us.getD uN zC = ⟨a0, a1, a2⟩) ∧ Wb wt wr.heap.size a0 a1 a2 ∧ Below wr.heap.size wr wt) (fun i _ => j - (intOf i).toNat)
          case atStart => exact ⟨0, x0, x1, x2, by omega, rfl, HXU, ⟨by simp [go_sem], by simp [go_sem], by simp [go_sem], by simp [go_sem], by simp [go_sem], by simp [go_sem]⟩, by go_grown⟩
          case round =>
            obtain ⟨t, a0, a1, a2, ht, rfl, hA, hWb, hbt⟩ := hrel
            have hbw2 := below_in hbw hbt
            by_cases hlt : t < j
            · have hl := Hle.out
              have hlg := HL.out.hn
              have hes := HES.out t hlt
              have hla := rn_last us g l uN (by have := HP.out.hn; omega) t
              obtain ⟨be, oe, rfl, hce⟩ := RdE.at_ (Rds.keep (below_in hbr hbt) HE.out) (by omega)
              obtain ⟨bg, og, rfl, hcg⟩ := (HL.out.keep hbw2).hr.at_ (by omega)
              have i0 := hce t (by omega)
              obtain ⟨r0, r1, r2, r3, -⟩ := hcg t (by omega)
              have hgd := getD_at l zG t (by omega)
              rw [List.getElem?_eq_getElem (by omega)] at hes
              rw [Option.some.inj hes] at i0
              generalize stE (rn us g l t).us (rn us g l t).g (l.getD t zG) = z at i0 hla
              rw [hgd] at hla
              generalize l[t]'(by omega) = y at r0 r1 r2 r3 hla
              obtain ⟨g0, g1, g2, g3⟩ := y
              have htj : (t : Int) < (j : Int) := by omega
              have iq1 : (j : Int) ≤ (q : Int) := by have := HL.out.hr.len; omega
              have iq2 : (q : Int) ≤ 9223372036854775807 := by have := HL.out.hr.cap; omega
              clear hce hcg hl hlg hes hgd
              by_cases hz : z = 0
              · subst hz
                by_cases hgu : g0 = (uN : Int)
                · rw [if_pos ⟨rfl, hgu⟩] at hla
                  have HLA := hid hla
                  have dgu : (g0 == (uN : Int)) = true := by simp [hgu]
                  have hWb2 := hid hWb
                  obtain ⟨c0, c1, c2, f0, f1, f2⟩ := hWb
                  clear hla hgu k0 k1 k2 m0 m1 m2
                  go_wp2_with fail
                  exact ⟨⟨t + 1, g1, g2, g3, by omega, by go_num, HLA, hWb2.out.lay _ _ _, set3 hbt (Nat.le_refl _) _ _ _⟩, by simp [intOf]; omega⟩
                · rw [if_neg (fun hh => hgu hh.2)] at hla
                  have HLA := hid (hla.trans hA.out)
                  have dgu : (g0 == (uN : Int)) = false := by simp [hgu]
                  clear hla hgu k0 k1 k2 m0 m1 m2
                  go_wp2_with fail
                  exact ⟨⟨t + 1, a0, a1, a2, by omega, by go_num, HLA, hWb, hbt⟩, by simp [intOf]; omega⟩
              · rw [if_neg (fun hh => hz hh.1)] at hla
                have HLA := hid (hla.trans hA.out)
                have dz : (z == 0) = false := by simp [hz]
                clear hla hz k0 k1 k2 m0 m1 m2
                go_wp2_with fail
                exact ⟨⟨t + 1, a0, a1, a2, by omega, by go_num, HLA, hWb, hbt⟩, by simp [intOf]; omega⟩
            · obtain rfl : t = j := by omega
              obtain ⟨rfl, rfl, rfl⟩ : a0 = y0' ∧ a1 = y1' ∧ a2 = y2' := by
                have h := hA.out.symm.trans HYU.out
                injection h with h1 h2 h3
                exact ⟨h1, h2, h3⟩
              obtain ⟨c0, c1, c2, -, -, -⟩ := hWb
              (replace v0 := keep hbt v0; replace v1 := keep hbt v1; replace v2 := keep hbt v2)
              (replace m0 := keep hbt m0; replace m1 := keep hbt m1; replace m2 := keep hbt m2)
              clear ht hlt k0 k1 k2 hA
              go_wp2_with fail
              (have fa0 := Past.all v0; have fa1 := Past.all v1; have fa2 := Past.all v2)
              (have fb0 := Past.all m0; have fb1 := Past.all m1; have fb2 := Past.all m2)
              (have fc0 := Past.all c0; have fc1 := Past.all c1; have fc2 := Past.all c2)
              refine wp_region_past (by kernel_rfl) (by kernel_rfl) ?_
              repeat (go_big_quiet_step (fail))
              refine wpQuiet_nil ?_
              rintro w9 ⟨⟨_, hx⟩, rfl⟩
              replace hbw2 := below_in hbw2 hx
              clear fa0 fa1 fa2 fb0 fb1 fb2 fc0 fc1 fc2
              go_wp2
              go_ret
              exact ⟨rfl, hbw2⟩

set_option maxRecDepth 100000 in
theorem glast_lifted (os : Os) (started : os.Started) (H : Type) (enc : TypeId × Value → H) :
    ReturnsInHanded {} Try.checked os 6 .any (Rows.grantLastSpec.pre6 enc Try.prog Try.f6 Rows.grantLastRow.domain false) (Rows.grantLastSpec.post enc Try.prog Try.f6 false true false false) := by
  refine returnsInHanded_of_change (C := Try.checked) own started (by kernel_rfl) Try.func6
    (ChangeSpec.witness6 (enc := enc) (C := Try.checked) false ⟨#[], #[.agg #[.slice none 0 0, .slice none 0 0, .int .i64 0], .slice none 0 0, .int .i64 0], []⟩ 8 (by kernel_rfl) (by kernel_rfl) (by kernel_rfl) (by kernel_rfl)) ?_
  intro W base args ds gs before hval0 hW _ _
  have hval : ∀ (j : Nat) t v, Try.f6.params[j]? = some t → args[j]? = some v → Value.okWide Try.prog W .any base t v := hval0
  have hW' := hW
  obtain ⟨p, q, hA0, hV, rfl, _, _⟩ := hW
  have hA : DataW.TrodAll enc Try.prog W 0 (fun _ => true) true Try.f6.params.toList args.toList ds p := hA0
  rw [Try.params6] at hA hval
  obtain ⟨v0, v1, v2, d0, d1, d2, p0, p1, p2, rfl, rfl, rfl, h0, h1, h2⟩ := trodAll_three hA
  obtain ⟨rfl, rfl⟩ := trodVars_none hV
  obtain ⟨A, n, c, B, m, d, g, us, qs, rfl, hr⟩ := open_policy (hval 0 _ v0 rfl rfl) h0
  obtain ⟨G, p, q, l, rfl, hs⟩ := open_grants (hval 1 _ v1 rfl rfl) h1
  obtain ⟨u, rfl, hu⟩ := open_i64 (hval 2 _ v2 rfl rfl) h2
  refine (glast_walk A n c B m d g us qs G p q l u hu W hr hs).mono fun e W' ⟨he, hg⟩ => ?_
  subst he
  exact ⟨_, rfl, law_post laidOut (by kernel_rfl) rfl Try.underlying4 rfl rfl hW' hg⟩

theorem glast_holds : Rows.GrantLastSaid :=
  OpenClaim.holds_of_wide 6 Try.f6 rfl rfl rfl rfl rfl rfl rfl ⟨rfl, rfl, rfl, rfl, rfl⟩ rfl rfl rfl rfl rfl (by kernel_rfl) Try.func6 (by kernel_rfl)
    (of_decide_eq_true (by kernel_rfl)) (by unfold Func.isWrapper; rw [if_neg (of_decide_eq_false (by kernel_rfl))]; exact ⟨rfl, rfl⟩)
    (fun os started H enc _ => glast_lifted os started H enc)
#print axioms glast_holds
end Go.Proofs.Ytbigppdaoakkfaa
