/-
  The contract of the reference's Run.
-/
import Derived.Test.YtbigppdaoakkfaaGrD
import Derived.Test.YtbigppdaoakkfaaGrI
namespace Go.Proofs.Ytbigppdaoakkfaa
open Go.RowKit
set_option linter.unusedVariables false
set_option linter.unusedSimpArgs false

theorem info_I : (Try.prog.info? 3).map (fun i => (i.zero, i.size, i.bytes)) = some (some (.int .i64 0), 1, 8) := by kernel_rfl
theorem lit_i1 (w : World) (g : Nat) (hg : w.heap.size = g) (k : Int) : RdE (w.alloc (.cells #[.int .i64 k] 3)) (some ⟨g, 0, none⟩) 1 [k] := by
  subst hg
  exact (Owns.lit ec_length (by omega) w (base := 0) 3 [k] (Nat.zero_le _) (by simp)).rd ec_length

set_option maxRecDepth 100000 in
set_option maxHeartbeats 2000000 in
theorem rrun_of (v : Pl) (es : List Int) (k : Int) (n' m' t' : Nat) (A : Option Addr) (n c : Nat) (B : Option Addr) (m d : Nat) (g : Int) (us : List Cl) (qs : List Qt) (G : Option Addr) (p q : Nat) (l : List Gr)
    (hv : Hid (ruP us qs g l = v ∧ ruS us qs g l = es ∧ ruE us qs g l = k ∧ v.us.length = n' ∧ v.qs.length = m' ∧ es.length = t')) (w : World) (hp : Pol w A n c B m d g us qs) (hl : Grs w G p q l) :
    Calls Try.prog 20 #[.agg #[.slice A n c, .slice B m d, .int .i64 g], .slice G p q] w fun e w' => ∃ A' c' B' d' E e', e = .returned (.tuple #[.agg #[.slice A' n' c', .slice B' m' d', .int .i64 (v.g)], .slice E t' e', .int .i64 k]) ∧ OwnC w' w.heap.size A' c' v.us ∧ OwnQ w' w.heap.size B' d' v.qs ∧ RdE w' E e' es ∧ Below w.heap.size w w' := by
  have hn := hp.hn
  have hm := hp.hm
  have HP := hid hp
  have HL := hid hl
  have hc2 : (q : Int) ≤ 9223372036854775807 := by have := hl.hr.cap; omega
  have hc1 : (p : Int) ≤ q := by have := hl.hr.len; have := hl.hn; omega
  obtain ⟨i0, hi0, hz0, hz1, hz2⟩ := info_parts info_I
  cases hq : rightB us qs g
  · have he : ruE us qs g l = 8 := by rw [ruE, if_neg (by simp [hq])]
    have hx := hv.out
    rw [ruP, ruS, he, if_neg (by decide), if_neg (by decide)] at hx
    obtain ⟨rfl, rfl, rfl, rfl, rfl, rfl⟩ := hx
    have HQ := hid hq
    clear hq hv he hn hm hp hl
    go_enter Try.func20, Try.ntmps20
    go_wp2_with fail
    refine (rRight_of false A n c B m d g us qs HQ _ (HP.out.keep (show Below w.heap.size w _ by go_grown))).mono ?_
    rintro e w1 ⟨rfl, b1⟩
    (have s0 : w1.cell? ⟨w.heap.size + 1, 0, none⟩ = some (.slice none 0 0) := (keep b1 (by simp [go_sem])); have s1 : w1.cell? ⟨w.heap.size + 1, 1, none⟩ = some (.slice none 0 0) := (keep b1 (by simp [go_sem])); have s2 : w1.cell? ⟨w.heap.size + 1, 2, none⟩ = some (.int .i64 0) := (keep b1 (by simp [go_sem])))
    (have f0 : w1.frozen? ⟨w.heap.size + 1, 0, none⟩ = false := (keepz b1 (v := .slice none 0 0) (by simp [go_sem]) (by simp [go_sem])); have f1 : w1.frozen? ⟨w.heap.size + 1, 1, none⟩ = false := (keepz b1 (v := .slice none 0 0) (by simp [go_sem]) (by simp [go_sem])); have f2 : w1.frozen? ⟨w.heap.size + 1, 2, none⟩ = false := (keepz b1 (v := .int .i64 0) (by simp [go_sem]) (by simp [go_sem])))
    replace b1 := past_alloc2 b1
    go_wp2
    exact bodyPost_ret (v := .tuple #[.agg #[.slice none 0 0, .slice none 0 0, .int .i64 0], .slice none 0 0, .int .i64 8]) (by simp [results, Try.results20, go_sem, s0, s1, s2]) rfl ⟨none, 0, none, 0, none, 0, rfl, OwnC.nil _ _, OwnQ.nil _ _, Rds.nil _, set3 b1 (by omega) _ _ _⟩
  · have HQ := hid hq
    have hr := right_lens hq
    by_cases hp2 : 2048 < p
    · have he : ruE us qs g l = 4 := by rw [ruE, if_pos hq, if_pos (by rw [hl.hn]; exact hp2)]
      have hx := hv.out
      rw [ruP, ruS, he, if_neg (by decide), if_neg (by decide)] at hx
      obtain ⟨rfl, rfl, rfl, rfl, rfl, rfl⟩ := hx
      have d1 : decide (2048 < (p : Int)) = true := decide_eq_true (by omega)
      clear hq hv he hn hm hp hl hp2
      go_enter Try.func20, Try.ntmps20
      go_wp2_with fail
      refine (rRight_of true A n c B m d g us qs HQ _ (HP.out.keep (show Below w.heap.size w _ by go_grown))).mono ?_
      rintro e w1 ⟨rfl, b1⟩
      (have s0 : w1.cell? ⟨w.heap.size + 1, 0, none⟩ = some (.slice none 0 0) := (keep b1 (by simp [go_sem])); have s1 : w1.cell? ⟨w.heap.size + 1, 1, none⟩ = some (.slice none 0 0) := (keep b1 (by simp [go_sem])); have s2 : w1.cell? ⟨w.heap.size + 1, 2, none⟩ = some (.int .i64 0) := (keep b1 (by simp [go_sem])))
      (have f0 : w1.frozen? ⟨w.heap.size + 1, 0, none⟩ = false := (keepz b1 (v := .slice none 0 0) (by simp [go_sem]) (by simp [go_sem])); have f1 : w1.frozen? ⟨w.heap.size + 1, 1, none⟩ = false := (keepz b1 (v := .slice none 0 0) (by simp [go_sem]) (by simp [go_sem])); have f2 : w1.frozen? ⟨w.heap.size + 1, 2, none⟩ = false := (keepz b1 (v := .int .i64 0) (by simp [go_sem]) (by simp [go_sem])))
      replace b1 := past_alloc2 b1
      go_wp2
      exact bodyPost_ret (v := .tuple #[.agg #[.slice none 0 0, .slice none 0 0, .int .i64 0], .slice none 0 0, .int .i64 4]) (by simp [results, Try.results20, go_sem, s0, s1, s2]) rfl ⟨none, 0, none, 0, none, 0, rfl, OwnC.nil _ _, OwnQ.nil _ _, Rds.nil _, set3 b1 (by omega) _ _ _⟩
    · have he : ruE us qs g l = 0 := by rw [ruE, if_pos hq, if_neg (by rw [hl.hn]; exact hp2)]
      have hx := hv.out
      rw [ruP, ruS, he, if_pos rfl, if_pos rfl] at hx
      obtain ⟨rfl, rfl, rfl, hn', hm', ht'⟩ := hx
      simp only [(rn_length us g l l.length).1, (rn_length us g l l.length).2] at hn' ht'
      have HN := hid (hn'.symm.trans hn)
      have HM := hid (hm'.symm.trans hm)
      have HT := hid (ht'.symm.trans hl.hn)
      obtain rfl := HN.out
      obtain rfl := HM.out
      obtain rfl := HT.out
      have d1 : decide (2048 < (t' : Int)) = false := decide_eq_false (by omega)
      have hn8 : n' ≤ 100 := by omega
      have hm8 : m' ≤ 100 := by omega
      have ht8 : t' ≤ 2048 := by omega
      have hg64 := HP.out.hg
      have HLn := hid hl.hn
      have HUn := hid hn
      have HQn := hid hm
      have RG := hid (rn_g us g l hr.2.2.1)
      have RL := hid (rn_length us g l)
      clear hq hv he hn hm hn' hm' ht' hp hl
      go_enter Try.func20, Try.ntmps20
      go_wp2_with fail
      refine (rRight_of true A n' c B m' d g us qs HQ _ (HP.out.keep (show Below w.heap.size w _ by go_grown))).mono ?_
      rintro e w1 ⟨rfl, b1⟩
      (have p0 : w1.cell? ⟨w.heap.size, 0, none⟩ = some (.slice A n' c) := (keep b1 (by simp [go_sem])); have p1 : w1.cell? ⟨w.heap.size, 1, none⟩ = some (.slice B m' d) := (keep b1 (by simp [go_sem])); have p2 : w1.cell? ⟨w.heap.size, 2, none⟩ = some (.int .i64 g) := (keep b1 (by simp [go_sem])))
      (have f0 : w1.frozen? ⟨w.heap.size, 0, none⟩ = false := (keepz b1 (v := .slice A n' c) (by simp [go_sem]) (by simp [go_sem])); have f1 : w1.frozen? ⟨w.heap.size, 1, none⟩ = false := (keepz b1 (v := .slice B m' d) (by simp [go_sem]) (by simp [go_sem])); have f2 : w1.frozen? ⟨w.heap.size, 2, none⟩ = false := (keepz b1 (v := .int .i64 g) (by simp [go_sem]) (by simp [go_sem])))
      (have s0 : w1.cell? ⟨w.heap.size + 1, 0, none⟩ = some (.slice none 0 0) := (keep b1 (by simp [go_sem])); have s1 : w1.cell? ⟨w.heap.size + 1, 1, none⟩ = some (.slice none 0 0) := (keep b1 (by simp [go_sem])); have s2 : w1.cell? ⟨w.heap.size + 1, 2, none⟩ = some (.int .i64 0) := (keep b1 (by simp [go_sem])))
      (have k0 : w1.frozen? ⟨w.heap.size + 1, 0, none⟩ = false := (keepz b1 (v := .slice none 0 0) (by simp [go_sem]) (by simp [go_sem])); have k1 : w1.frozen? ⟨w.heap.size + 1, 1, none⟩ = false := (keepz b1 (v := .slice none 0 0) (by simp [go_sem]) (by simp [go_sem])); have k2 : w1.frozen? ⟨w.heap.size + 1, 2, none⟩ = false := (keepz b1 (v := .int .i64 0) (by simp [go_sem]) (by simp [go_sem])))
      have hz1' : w.heap.size + 1 + 1 ≤ w1.heap.size := by have := b1.size; simpa using this
      replace b1 := past_alloc2 b1
      go_wp2_with fail
      refine (rTwin_of A n' c B m' d g us qs (by omega) (by omega) _ (HP.out.keep b1)).mono ?_
      rintro e w2 ⟨A', c', B', d', rfl, hoc, hoq, b2⟩
      (replace k0 := keepz b2 s0 k0; replace k1 := keepz b2 s1 k1; replace k2 := keepz b2 s2 k2)
      (replace s0 := keep b2 s0; replace s1 := keep b2 s1; replace s2 := keep b2 s2)
      (replace f0 := keepz b2 p0 f0; replace f1 := keepz b2 p1 f1; replace f2 := keepz b2 p2 f2)
      (replace p0 := keep b2 p0; replace p1 := keep b2 p1; replace p2 := keep b2 p2)
      replace b1 := below_in b1 b2
      have hz2' := Nat.le_trans hz1' b2.size
      clear b2
      have RS := hid ((⟨⟨p0, p1, p2⟩, f0, f1, f2, ⟨s0, s1, s2⟩, k0, k1, k2, b1, hz2'⟩ : RunB w w2 n' m' A c B d g).lay A' n' c' B' m' d' g)
      have OC := hid (OwnC.mono (⟨hoc.1.lay (T := w.heap.size) (by omega) A' n' c' B' m' d' g, hoc.2⟩ : OwnC _ _ _ _ _) (base' := w.heap.size + 1 + 1) (by omega))
      have OQ := hid (OwnQ.mono (⟨hoq.1.lay (T := w.heap.size) (by omega) A' n' c' B' m' d' g, hoq.2⟩ : OwnQ _ _ _ _ _) (base' := w.heap.size + 1 + 1) (by omega))
      clear hoc hoq k0 k1 k2
      go_wp2_with fail
      clear s0 s1 s2 p0 p1 p2 f0 f1 f2 b1
      go_loopw [7, 8] (fun o i wr => ∃ (j : Nat) (E : Option Addr) (e : Nat) (A : Option Addr) (c : Nat) (B : Option Addr) (d : Nat) (s : St), j ≤ t' ∧ i = .int .i64 (j : Int) ∧ o = .slice E j e ∧ Hid (rn us g l j = s) ∧ RunB w wr n' m' A c B d s.g ∧ OwnC wr (w.heap.size + 1 + 1) A c s.us ∧ OwnQ wr (w.heap.size + 1 + 1) B d qs ∧ Owns ec 1 wr (w.heap.size + 1 + 1) 3 E e s.es) (fun _ i _ => t' - (intOf i).toNat)
      case atStart => exact ⟨0, none, 0, A', c', B', d', ⟨us, g, []⟩, by omega, rfl, rfl, hid rfl, RS.out, OC.out, OQ.out, Owns.nil _ _ _⟩
      case round =>
        obtain ⟨j, E, e, A, c, B, d, s, hj, rfl, rfl, hs, hR, hC, hQ9, hE⟩ := hrel
        have hg0 := RG.out j
        rw [hs.out] at hg0
        have hul := RL.out j
        rw [hs.out] at hul
        have hs1 : rn us g l (j + 1) = ⟨stU s.us s.g (l.getD j zG), stG s.us s.g (l.getD j zG), s.es ++ [stE s.us s.g (l.getD j zG)]⟩ := by rw [rn, hs.out]
        by_cases hlt : j < t'
        · obtain ⟨b, o, rfl, hcell⟩ := (HL.out.keep hR.hb).hr.at_ (by have := HLn.out; omega)
          obtain ⟨x0, x1, x2, x3, hty⟩ := hcell j (by have := HLn.out; omega)
          rw [getD_at l zG j (by have := HLn.out; omega)] at hs1
          generalize l[j]'(by have := HLn.out; omega) = y at x0 x1 x2 x3 hty hs1
          obtain ⟨u, l0, l1, ok⟩ := y
          have hlt2 : (j : Int) < (t' : Int) := by omega
          have HS1 := hid hs1
          have HTY := hid hty
          have HPL : Pol wr A n' c B m' d s.g s.us qs := ⟨hul.1.trans HUn.out, HQn.out, hC.rd, hQ9.rd, by have := hg64.2; exact ⟨by omega, by omega⟩⟩
          have HPH := hid HPL
          have HJ := hid hul.2
          clear hcell hs1 hty HPL hul
          cases hg : mayG ⟨u, l0, l1, ok⟩
          · have HG := hid hg
            have he : stE s.us s.g ⟨u, l0, l1, ok⟩ = 8 := stE_bad hg
            have HG1 := hid (show (⟨stU s.us s.g ⟨u, l0, l1, ok⟩, stG s.us s.g ⟨u, l0, l1, ok⟩, s.es ++ [stE s.us s.g ⟨u, l0, l1, ok⟩]⟩ : St) = ⟨s.us, s.g, s.es ++ [8]⟩ by rw [stU, stG, he, if_neg (by decide), if_neg (by decide)])
            clear hg he
            go_wp2_with fail
            refine (rmay_of false u l0 l1 ok HG _).mono ?_
            rintro e w5 ⟨rfl, b4⟩
            replace hR := hR.keep b4
            replace hE := Owns.keep hE b4
            replace hC := hC.keep b4
            replace hQ9 := hQ9.keep b4
            have hz5' : w.heap.size + 1 + 1 ≤ w5.heap.size := hR.lt
            clear b4 x0 x1 x2 x3
            have hR6 := hid hR
            have hE6 := hid hE
            have hC6 := hid hC
            have hQ6 := hid hQ9
            clear hR hE hC hQ9
            go_wp2_with (at_builtin; refine wpList_append_g rfl (.tmp 40) (.tmp 42) _ rfl (w.heap.size + 1 + 1) 3 ec_length (by omega) ec_one Try.underlying54 hi0 hz0 rfl hz1 hz2 (by omega) E j e s.es HJ rfl (Owns.keep hE6.out ((Below.refl _ _).alloc (Nat.le_refl _) _)) (some ⟨w5.heap.size, 0, none⟩) 1 1 [8] (hid rfl) rfl (lit_i1 _ _ rfl 8) (by omega) (by simp; omega) ?_; intro E' e' w7 hE7 hb7 hg7)
            go_roundw
            case rel =>
              obtain ⟨r1, r2, r3⟩ := round_err (t := 3) (by decide) (by decide) hR6.out hC6.out hQ6.out hE6.out HJ.out _ hb7 hg7
              exact ⟨j + 1, E', e', A, c, B, d, ⟨s.us, s.g, s.es ++ [8]⟩, by omega, by go_num, rfl, hid (by rw [HS1.out, HG1.out]), r1, r2, r3, hE7⟩
            case measure => simp [intOf]; omega
          · have HG := hid hg
            by_cases he : stE s.us s.g ⟨u, l0, l1, ok⟩ = 0
            · have HE := hid he
              have HG1 := hid (show (⟨stU s.us s.g ⟨u, l0, l1, ok⟩, stG s.us s.g ⟨u, l0, l1, ok⟩, s.es ++ [stE s.us s.g ⟨u, l0, l1, ok⟩]⟩ : St) = ⟨s.us.set u.toNat ⟨l0, l1, ok⟩, s.g - 1, s.es ++ [0]⟩ by rw [stU, stG, HE.out, if_pos rfl, if_pos rfl]; rfl)
              clear hg he
              go_wp2_with fail
              refine (rmay_of true u l0 l1 ok HG _).mono ?_
              rintro e w4 ⟨rfl, b4⟩
              replace hR := hR.keep b4
              replace hE := Owns.keep hE b4
              have HPH4 := hid (HPH.out.keep b4)
              (replace x0 := keep b4 x0; replace x1 := keep b4 x1; replace x2 := keep b4 x2; replace x3 := keep b4 x3)
              clear b4
              obtain ⟨s0, s1, s2⟩ := hR.box
              have f0 := hR.f0
              have f1 := hR.f1
              have f2 := hR.f2
              have HR4 := hid hR
              have HE4 := hid hE
              have hwr := hR.lt
              clear hR hE hC hQ9
              go_wp2_with fail
              go_region_with (go_at_call 35; refine (behind_ok A n' c B m' d s.g s.us qs u l0 l1 ok HTY.out HE hn8 hm8 hg0.1 _ (HPH4.out.keep (Below.refl _ _).drew)).mono ?_; rintro e w5 ⟨A4, c4, B4, d4, rfl, hoc, hoq, b5⟩; have y0 := keep b5 s0; have y1 := keep b5 s1; have y2 := keep b5 s2; have z0 := keepz b5 s0 f0; have z1 := keepz b5 s1 f1; have z2 := keepz b5 s2 f2)
              all_goals
                have b6 : Below w4.heap.size w4 w5 := ((Below.refl _ w4).drew).trans b5
                have hz5' := Nat.le_trans hwr b6.size
                have hR6 := hid ((HR4.out.keep b6).lay A4 n' c4 B4 m' d4 (s.g - 1))
                have hE6 := hid ((Owns.keep HE4.out b6).lay (T := w.heap.size) (by omega) A4 n' c4 B4 m' d4 (s.g - 1))
                have hC6 := hid (⟨(hoc.mono (base' := w.heap.size + 1 + 1) hwr).1.lay (T := w.heap.size) (by omega) A4 n' c4 B4 m' d4 (s.g - 1), hoc.2⟩ : OwnC (lay3 w5 w.heap.size A4 n' c4 B4 m' d4 (s.g - 1)) (w.heap.size + 1 + 1) A4 c4 _)
                have hQ6 := hid (⟨(hoq.mono (base' := w.heap.size + 1 + 1) hwr).1.lay (T := w.heap.size) (by omega) A4 n' c4 B4 m' d4 (s.g - 1), hoq.2⟩ : OwnQ (lay3 w5 w.heap.size A4 n' c4 B4 m' d4 (s.g - 1)) (w.heap.size + 1 + 1) B4 d4 qs)
                clear y0 y1 y2 z0 z1 z2 s0 s1 s2 f0 f1 f2 b5 b6 hoc hoq
                go_simp
                generalize hV : World.setCell (World.setCell (World.setCell w5 _ _) _ _) _ _ = V
                replace hR6 : Hid (RunB w V n' m' A4 c4 B4 d4 (s.g - 1)) := by rw [← hV]; exact hR6
                replace hE6 : Hid (Owns ec 1 V (w.heap.size + 1 + 1) 3 E e s.es) := by rw [← hV]; exact hE6
                replace hC6 : Hid (OwnC V (w.heap.size + 1 + 1) A4 c4 (s.us.set u.toNat ⟨l0, l1, ok⟩)) := by rw [← hV]; exact hC6
                replace hQ6 : Hid (OwnQ V (w.heap.size + 1 + 1) B4 d4 qs) := by rw [← hV]; exact hQ6
                have hzV : w.heap.size + 1 + 1 ≤ V.heap.size := hR6.out.lt
                clear hV
                go_wp2_with (at_builtin; refine wpList_append_g rfl (.tmp 40) (.tmp 42) _ rfl (w.heap.size + 1 + 1) 3 ec_length (by omega) ec_one Try.underlying54 hi0 hz0 rfl hz1 hz2 (by omega) E j e s.es HJ rfl (Owns.keep hE6.out ((Below.refl _ _).alloc (Nat.le_refl _) _)) (some ⟨V.heap.size, 0, none⟩) 1 1 [0] (hid rfl) rfl (lit_i1 _ _ rfl 0) (by omega) (by simp; omega) ?_; intro E' e' w7 hE7 hb7 hg7)
                go_roundw
                case rel =>
                  obtain ⟨r1, r2, r3⟩ := round_err (t := 3) (by decide) (by decide) hR6.out hC6.out hQ6.out hE6.out HJ.out _ hb7 hg7
                  exact ⟨j + 1, E', e', A4, c4, B4, d4, ⟨s.us.set u.toNat ⟨l0, l1, ok⟩, s.g - 1, s.es ++ [0]⟩, by omega, by go_num, rfl, hid (by rw [HS1.out, HG1.out]), r1, r2, r3, hE7⟩
                case measure => simp [intOf]; omega
            · obtain ⟨k, hk⟩ : ∃ k, stE s.us s.g ⟨u, l0, l1, ok⟩ = k := ⟨_, rfl⟩
              have HE := hid (show stE s.us s.g ⟨u, l0, l1, ok⟩ = k ∧ k ≠ 0 from ⟨hk, fun h => he (hk.trans h)⟩)
              have HG1 := hid (show (⟨stU s.us s.g ⟨u, l0, l1, ok⟩, stG s.us s.g ⟨u, l0, l1, ok⟩, s.es ++ [stE s.us s.g ⟨u, l0, l1, ok⟩]⟩ : St) = ⟨s.us, s.g, s.es ++ [k]⟩ by rw [stU, stG, if_neg he, if_neg he, hk])
              clear hg he hk
              go_wp2_with fail
              refine (rmay_of true u l0 l1 ok HG _).mono ?_
              rintro e w4 ⟨rfl, b4⟩
              replace hR := hR.keep b4
              replace hE := Owns.keep hE b4
              replace hC := hC.keep b4
              replace hQ9 := hQ9.keep b4
              have HPH4 := hid (HPH.out.keep b4)
              (replace x0 := keep b4 x0; replace x1 := keep b4 x1; replace x2 := keep b4 x2; replace x3 := keep b4 x3)
              clear b4
              obtain ⟨s0, s1, s2⟩ := hR.box
              have f0 := hR.f0
              have f1 := hR.f1
              have f2 := hR.f2
              have HR4 := hid hR
              have HE4 := hid hE
              have HC4 := hid hC
              have HQ4 := hid hQ9
              have hwr := hR.lt
              clear hR hE hC hQ9
              go_wp2_with fail
              go_region_with (go_at_call 35; refine (behind_err k A n' c B m' d s.g s.us qs u l0 l1 ok HG.out HE _ HPH4.out.hn).mono ?_; rintro e w5 ⟨rfl, b5⟩; have y0 := keep b5 s0; have y1 := keep b5 s1; have y2 := keep b5 s2; have z0 := keepz b5 s0 f0; have z1 := keepz b5 s1 f1; have z2 := keepz b5 s2 f2)
              all_goals
                have b6 : Below w4.heap.size w4 w5 := ((Below.refl _ w4).drew).trans b5
                have hz5' := Nat.le_trans hwr b6.size
                have hR6 := hid ((HR4.out.keep b6).lay A n' c B m' d s.g)
                have hE6 := hid ((Owns.keep HE4.out b6).lay (T := w.heap.size) (by omega) A n' c B m' d s.g)
                have hC6 := hid (⟨(HC4.out.keep b6).1.lay (T := w.heap.size) (by omega) A n' c B m' d s.g, HC4.out.2⟩ : OwnC (lay3 w5 w.heap.size A n' c B m' d s.g) (w.heap.size + 1 + 1) A c _)
                have hQ6 := hid (⟨(HQ4.out.keep b6).1.lay (T := w.heap.size) (by omega) A n' c B m' d s.g, HQ4.out.2⟩ : OwnQ (lay3 w5 w.heap.size A n' c B m' d s.g) (w.heap.size + 1 + 1) B d qs)
                clear y0 y1 y2 z0 z1 z2 s0 s1 s2 f0 f1 f2 b5 b6
                go_simp
                generalize hV : World.setCell (World.setCell (World.setCell w5 _ _) _ _) _ _ = V
                replace hR6 : Hid (RunB w V n' m' A c B d s.g) := by rw [← hV]; exact hR6
                replace hE6 : Hid (Owns ec 1 V (w.heap.size + 1 + 1) 3 E e s.es) := by rw [← hV]; exact hE6
                replace hC6 : Hid (OwnC V (w.heap.size + 1 + 1) A c s.us) := by rw [← hV]; exact hC6
                replace hQ6 : Hid (OwnQ V (w.heap.size + 1 + 1) B d qs) := by rw [← hV]; exact hQ6
                have hzV : w.heap.size + 1 + 1 ≤ V.heap.size := hR6.out.lt
                clear hV
                go_wp2_with (at_builtin; refine wpList_append_g rfl (.tmp 40) (.tmp 42) _ rfl (w.heap.size + 1 + 1) 3 ec_length (by omega) ec_one Try.underlying54 hi0 hz0 rfl hz1 hz2 (by omega) E j e s.es HJ rfl (Owns.keep hE6.out ((Below.refl _ _).alloc (Nat.le_refl _) _)) (some ⟨V.heap.size, 0, none⟩) 1 1 [k] (hid rfl) rfl (lit_i1 _ _ rfl k) (by omega) (by simp; omega) ?_; intro E' e' w7 hE7 hb7 hg7)
                go_roundw
                case rel =>
                  obtain ⟨r1, r2, r3⟩ := round_err (t := 3) (by decide) (by decide) hR6.out hC6.out hQ6.out hE6.out HJ.out _ hb7 hg7
                  exact ⟨j + 1, E', e', A, c, B, d, ⟨s.us, s.g, s.es ++ [k]⟩, by omega, by go_num, rfl, hid (by rw [HS1.out, HG1.out]), r1, r2, r3, hE7⟩
                case measure => simp [intOf]; omega
        · obtain rfl : j = t' := by omega
          have hlt2 : ¬ (j : Int) < (j : Int) := by omega
          obtain ⟨s0, s1, s2⟩ := hR.box
          obtain ⟨z0, z1, z2⟩ := hR.z
          have h0 := hR.h0
          have h1 := hR.h1
          have h2 := hR.h2
          have HSL := hid (show rn us g l l.length = s by rw [HLn.out]; exact hs.out)
          clear hs1
          go_wp2
          rw [HSL.out]
          exact bodyPost_ret (v := .tuple #[.agg #[.slice A n' c, .slice B m' d, .int .i64 (s.g)], .slice E j e, .int .i64 0]) (by simp [results, Try.results20, go_sem, s0, s1, s2, z0, z1, z2]) rfl ⟨A, c, B, d, E, e, rfl, OwnC.mono (((hC.set (by show w.heap.size + 1 < _; omega) _).set (by show w.heap.size + 1 < _; omega) _).set (by show w.heap.size + 1 < _; omega) _) (by omega), OwnQ.mono (((hQ9.set (by show w.heap.size + 1 < _; omega) _).set (by show w.heap.size + 1 < _; omega) _).set (by show w.heap.size + 1 < _; omega) _) (by omega), (((Owns.set hE (by show w.heap.size + 1 < _; omega) _).set (by show w.heap.size + 1 < _; omega) _).set (by show w.heap.size + 1 < _; omega) _).rd ec_length, set3 hR.hb (by omega) _ _ _⟩
end Go.Proofs.Ytbigppdaoakkfaa
