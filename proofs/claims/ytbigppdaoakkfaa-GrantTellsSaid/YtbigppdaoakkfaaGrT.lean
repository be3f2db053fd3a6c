/-
  Grants are checked, and policies behind one, or several, told, as the document says; they stay, and what is answered is new memory: the statement GrantTells. Conditions: the statement's own (at most 100 users and quotas; 300 grants, or 2,049 to 2,060).
-/
import Derived.Test.YtbigppdaoakkfaaGrK
import Derived.Test.YtbigppdaoakkfaaGrJ
import Derived.Test.YtbigppdaoakkfaaPoO
import Derived.BigRegion
namespace Go.Proofs.Ytbigppdaoakkfaa
open Go.ChangeShapes Go.WideShapes Go.ChangeAt Go.RowKit Go.Joins
set_option linter.unusedVariables false
set_option linter.unusedSimpArgs false

theorem allS_refl {α : Type} {f : α → α → Bool} {z : α} (hf : ∀ x, f x x = true) (us : List α) : ∀ j, allS f z us us j = true
  | 0 => rfl
  | j + 1 => by rw [allS, allS_refl hf us j, hf]; rfl
theorem sameP_refl (us : List Cl) (qs : List Qt) (g : Int) : sameP us qs g us qs g = true := by
  rw [sameP, sameUs, sameQs, allS_refl (fun x => by simp [sameCl, sameC]) us, allS_refl (fun x => by simp [sameQt, sameQ]) qs]
  simp
theorem apP_in (us : List Cl) (qs : List Qt) (g : Int) (x : Gr) : In64 (apP us qs g x).g := by
  unfold apP
  split
  · rename_i h
    unfold apE at h
    split at h
    · rename_i hr
      have := right_lens hr
      exact ⟨by show _ ≤ g - 1; omega, by show g - 1 ≤ _; omega⟩
    · cases h
  · exact ⟨by decide, by decide⟩
theorem ruP_in (us : List Cl) (qs : List Qt) (g : Int) (l : List Gr) : In64 (ruP us qs g l).g := by
  unfold ruP
  split
  · rename_i h
    unfold ruE at h
    split at h
    · rename_i hr
      have := right_lens hr
      have h2 := rn_g us g l this.2.2.1 l.length
      exact ⟨by show _ ≤ (rn us g l l.length).g; omega, by show (rn us g l l.length).g ≤ _; omega⟩
    · cases h
  · exact ⟨by decide, by decide⟩
theorem hbool_of {us : List Cl} {n : Nat} (h : us.length = n) : ∀ k, k < n → ∃ b, (flat Cl.cs us)[k * 3 + 2]? = some (.bool b) := fun k hk =>
  ⟨(us[k]'(by omega)).ok, by rw [flat_at Cl.cs_length us k (by omega) 2 (by omega)]; rfl⟩
theorem hbool_set {n j : Nat} {xs : List Value} (b : Bool) (hj : j < n) (h : ∀ k, k < n → ∃ b, xs[k * 3 + 2]? = some (.bool b)) : ∀ k, k < n → ∃ x, (xs.set (j * 3 + 2) (.bool b))[k * 3 + 2]? = some (.bool x) := fun k hk => by
  obtain ⟨b0, hb0⟩ := h j hj
  by_cases e : k = j
  · subst e
    exact ⟨b, by rw [List.getElem?_set_self (List.getElem?_eq_some_iff.1 hb0).1]⟩
  · obtain ⟨b', hb'⟩ := h k hk
    exact ⟨b', by rw [List.getElem?_set_ne (by omega)]; exact hb'⟩

set_option maxRecDepth 100000 in
set_option maxHeartbeats 8000000 in
theorem gtells_walk (A : Option Addr) (n c : Nat) (B : Option Addr) (m d : Nat) (g : Int) (us : List Cl) (qs : List Qt) (u l0 l1 : Int) (b : Bool) (G : Option Addr) (p q : Nat) (l : List Gr) (hx : Gr.typed ⟨u, l0, l1, b⟩) (w : World) (hr : Pol w A n c B m d g us qs) (hs : Grs w G p q l) :
    Calls Try.prog 4 #[.agg #[.slice A n c, .slice B m d, .int .i64 g], .agg #[.int .i64 u, .int .u8 l0, .int .u32 l1, .bool b], .slice G p q] w fun e w' => e = .returned (.bool true) ∧ Below w.heap.size w w' := by
  obtain ⟨v, k, n', m', hv⟩ : ∃ (v : Pl) (k : Int) (n' m' : Nat), apP us qs g ⟨u, l0, l1, b⟩ = v ∧ apE us qs g ⟨u, l0, l1, b⟩ = k ∧ v.us.length = n' ∧ v.qs.length = m' := ⟨_, _, _, _, rfl, rfl, rfl, rfl⟩
  obtain ⟨v2, es, k2, n2, m2, t2, hv2⟩ : ∃ (v2 : Pl) (es : List Int) (k2 : Int) (n2 m2 t2 : Nat), ruP us qs g l = v2 ∧ ruS us qs g l = es ∧ ruE us qs g l = k2 ∧ v2.us.length = n2 ∧ v2.qs.length = m2 ∧ es.length = t2 := ⟨_, _, _, _, _, _, rfl, rfl, rfl, rfl, rfl, rfl⟩
  generalize hGr : decide (100 < n ∨ 100 < m) = Y
  generalize hM : mayG ⟨u, l0, l1, b⟩ = M
  have G1 := hid (show In64 v.g by rw [← hv.1]; exact apP_in us qs g _)
  have G2 := hid (show In64 v2.g by rw [← hv2.1]; exact ruP_in us qs g _)
  have HG := hid hGr
  have HM := hid hM
  have HV := hid hv
  have HV2 := hid hv2
  have HX := hid hx
  have HP := hid hr
  have HL := hid hs
  have HT := hid (sameP_refl us qs g)
  have HT1 := hid (sameP_refl v.us v.qs v.g)
  have HT2 := hid (sameP_refl v2.us v2.qs v2.g)
  clear hGr hM hv hv2 hx hr hs
  go_enter Try.func4, Try.ntmps4
  go_wp2_with fail
  refine (great_of Y A n c B m d g HG _).mono ?_
  rintro e w1 ⟨rfl, b1⟩
  (have s0 : w1.cell? ⟨w.heap.size, 0, none⟩ = some (.slice A n c) := (keep b1 (by simp [go_sem])); have s1 : w1.cell? ⟨w.heap.size, 1, none⟩ = some (.slice B m d) := (keep b1 (by simp [go_sem])); have s2 : w1.cell? ⟨w.heap.size, 2, none⟩ = some (.int .i64 g) := (keep b1 (by simp [go_sem])))
  (have x0 : w1.cell? ⟨w.heap.size + 1, 0, none⟩ = some (.int .i64 u) := (keep b1 (by simp [go_sem])); have x1 : w1.cell? ⟨w.heap.size + 1, 1, none⟩ = some (.int .u8 l0) := (keep b1 (by simp [go_sem])); have x2 : w1.cell? ⟨w.heap.size + 1, 2, none⟩ = some (.int .u32 l1) := (keep b1 (by simp [go_sem])); have x3 : w1.cell? ⟨w.heap.size + 1, 3, none⟩ = some (.bool b) := (keep b1 (by simp [go_sem])))
  have hb := past_alloc2 b1
  clear b1
  cases Y
  case true =>
    go_wp2
    go_ret
    exact ⟨rfl, hb⟩
  have hnm : n ≤ 100 ∧ m ≤ 100 := by have := of_decide_eq_false HG.out; omega
  clear HG
  rcases (show p ≤ 300 ∨ (2048 < p ∧ p ≤ 2060) ∨ (300 < p ∧ p ≤ 2048) ∨ 2060 < p by omega) with h1 | h1 | h1 | h1
  case' inr.inr.inl =>
    have d1 : decide ((300 : Int) < (p : Int)) = true := decide_eq_true (by omega)
    have d0 : decide ((p : Int) ≤ 2048) = true := decide_eq_true (by omega)
    clear h1
    go_wp2
    go_ret
    exact ⟨rfl, hb⟩
  case' inr.inr.inr =>
    have d1 : decide ((300 : Int) < (p : Int)) = true := decide_eq_true (by omega)
    have d0 : decide ((p : Int) ≤ 2048) = false := decide_eq_false (by omega)
    have d2 : decide ((2060 : Int) < (p : Int)) = true := decide_eq_true (by omega)
    clear h1
    go_wp2
    go_ret
    exact ⟨rfl, hb⟩
  case' inl =>
    have d1 : decide ((300 : Int) < (p : Int)) = false := decide_eq_false (by omega)
    have d2 : decide ((2060 : Int) < (p : Int)) = false := decide_eq_false (by omega)
    clear h1
    go_wp2_with fail
    clear d1 d2
  case' inr.inl =>
    have d1 : decide ((300 : Int) < (p : Int)) = true := decide_eq_true (by omega)
    have d0 : decide ((p : Int) ≤ 2048) = false := decide_eq_false (by omega)
    have d2 : decide ((2060 : Int) < (p : Int)) = false := decide_eq_false (by omega)
    clear h1
    go_wp2_with fail
    clear d1 d2 d0
  all_goals
    refine (rTwin_of A n c B m d g us qs (by omega) (by omega) _ (HP.out.keep hb)).mono ?_
    rintro e w2 ⟨A', c', B', d', rfl, hoc, hoq, b2⟩
    (replace s0 := keep b2 s0; replace s1 := keep b2 s1; replace s2 := keep b2 s2)
    (replace x0 := keep b2 x0; replace x1 := keep b2 x1; replace x2 := keep b2 x2; replace x3 := keep b2 x3)
    replace hb := below_in hb b2
    clear b2
    have HO : Pol w2 A' n c' B' m d' g us qs := ⟨HP.out.hn, HP.out.hm, hoc.rd, hoq.rd, HP.out.hg⟩
    clear hoc hoq
    (have y0 := x0; have y1 := x1; have y2 := x2; have y3 := x3)
    (replace y0 := fun o => keepa y0 o; replace y1 := fun o => keepa y1 o; replace y2 := fun o => keepa y2 o; replace y3 := fun o => keepa y3 o)
    go_wp2_with fail
    generalize hW : w2.alloc _ = wA
    have hbW : Below w2.heap.size w2 wA := by rw [← hW]; go_grown
    (have o0 : wA.cell? ⟨w2.heap.size, 0, none⟩ = some (.slice A' n c') := ((by rw [← hW]; simp [go_sem])); have o1 : wA.cell? ⟨w2.heap.size, 1, none⟩ = some (.slice B' m d') := ((by rw [← hW]; simp [go_sem])); have o2 : wA.cell? ⟨w2.heap.size, 2, none⟩ = some (.int .i64 g) := ((by rw [← hW]; simp [go_sem])))
    clear hW y0 y1 y2 y3
    (replace s0 := keep hbW s0; replace s1 := keep hbW s1; replace s2 := keep hbW s2)
    (replace x0 := keep hbW x0; replace x1 := keep hbW x1; replace x2 := keep hbW x2; replace x3 := keep hbW x3)
    replace HO := HO.keep hbW
    replace hb := below_in hb hbW
    clear hbW
    have HO9 := hid HO
    have hb9 := hid hb
    have HS9 := hid (show _ ∧ _ ∧ _ from ⟨s0, s1, s2⟩)
    have HC9 := hid (show _ ∧ _ ∧ _ from ⟨o0, o1, o2⟩)
    refine (apply_of v k n' m' A' n c' B' m d' g us qs u l0 l1 b HX.out HV _ HO).mono ?_
    rintro e w3 ⟨A3, c3, B3, d3, rfl, ho3, hq3, h9⟩
    (replace s0 := keep h9 s0; replace s1 := keep h9 s1; replace s2 := keep h9 s2)
    (replace x0 := keep h9 x0; replace x1 := keep h9 x1; replace x2 := keep h9 x2; replace x3 := keep h9 x3)
    (replace o0 := keep h9 o0; replace o1 := keep h9 o1; replace o2 := keep h9 o2)
    replace HO := HO.keep h9
    replace hb := below_in hb h9
    have PA : Pol w3 A3 n' c3 B3 m' d3 v.g v.us v.qs := ⟨HV.out.2.2.1, HV.out.2.2.2, ho3.rd, hq3.rd, G1.out⟩
    have hTA := ho3.1.lt
    have h39 := h9.size
    (have y0 := x0; have y1 := x1; have y2 := x2; have y3 := x3; have r0 := s0; have r1 := s1; have r2 := s2)
    (replace y0 := fun o => keepa y0 o; replace y1 := fun o => keepa y1 o; replace y2 := fun o => keepa y2 o; replace y3 := fun o => keepa y3 o)
    (replace r0 := fun o => keepa r0 o; replace r1 := fun o => keepa r1 o; replace r2 := fun o => keepa r2 o)
    go_wp2_with fail
    generalize hW : w3.alloc _ = W3
    have hbW : Below w3.heap.size w3 W3 := by rw [← hW]; go_grown
    (have z0 : W3.cell? ⟨w3.heap.size, 0, none⟩ = some (.slice A3 n' c3) := ((by rw [← hW]; simp [go_sem])); have z1 : W3.cell? ⟨w3.heap.size, 1, none⟩ = some (.slice B3 m' d3) := ((by rw [← hW]; simp [go_sem])); have z2 : W3.cell? ⟨w3.heap.size, 2, none⟩ = some (.int .i64 (v.g)) := ((by rw [← hW]; simp [go_sem])))
    clear hW y0 y1 y2 y3 r0 r1 r2
    (replace s0 := keep hbW s0; replace s1 := keep hbW s1; replace s2 := keep hbW s2)
    (replace x0 := keep hbW x0; replace x1 := keep hbW x1; replace x2 := keep hbW x2; replace x3 := keep hbW x3)
    (replace o0 := keep hbW o0; replace o1 := keep hbW o1; replace o2 := keep hbW o2)
    replace ho3 := ho3.keep hbW
    replace PA := PA.keep hbW
    replace HO := HO.keep hbW
    replace hb := below_in hb hbW
    replace h9 := below_in h9 hbW
    have hz34 := hbW.size
    clear hbW hq3
    refine (rapply_of v k n' m' A n c B m d g us qs u l0 l1 b HX.out HV _ (HP.out.keep hb)).mono ?_
    rintro e w4 ⟨A4, c4, B4, d4, rfl, ho4, hq4, b4⟩
    (replace s0 := keep b4 s0; replace s1 := keep b4 s1; replace s2 := keep b4 s2)
    (replace x0 := keep b4 x0; replace x1 := keep b4 x1; replace x2 := keep b4 x2; replace x3 := keep b4 x3)
    (replace o0 := keep b4 o0; replace o1 := keep b4 o1; replace o2 := keep b4 o2)
    (replace z0 := keep b4 z0; replace z1 := keep b4 z1; replace z2 := keep b4 z2)
    replace ho3 := ho3.keep b4
    replace PA := PA.keep b4
    replace HO := HO.keep b4
    replace hb := below_in hb b4
    replace h9 := below_in h9 b4
    replace hz34 := Nat.le_trans hz34 b4.size
    have PB : Pol w4 A4 n' c4 B4 m' d4 v.g v.us v.qs := ⟨HV.out.2.2.1, HV.out.2.2.2, ho4.rd, hq4.rd, G1.out⟩
    clear b4 ho4 hq4
    (have r0 := o0; have r1 := o1; have r2 := o2)
    (replace r0 := fun o => keepa r0 o; replace r1 := fun o => keepa r1 o; replace r2 := fun o => keepa r2 o)
    go_wp2_with fail
    refine (run_of v2 es k2 n2 m2 t2 A' n c' B' m d' g us qs G p q l HV2 _ (HO.keep ((Below.refl _ _).alloc (Nat.le_refl _) _)) (HL.out.keep (hb.alloc hb.size _))).mono ?_
    rintro e w5 ⟨A5, c5, B5, d5, E5, e5, rfl, ho5, hq5, he5, b5⟩
    (have r0 : w5.cell? ⟨w4.heap.size, 0, none⟩ = some (.slice A4 n' c4) := (keep b5 (by simp [go_sem])); have r1 : w5.cell? ⟨w4.heap.size, 1, none⟩ = some (.slice B4 m' d4) := (keep b5 (by simp [go_sem])); have r2 : w5.cell? ⟨w4.heap.size, 2, none⟩ = some (.int .i64 (v.g)) := (keep b5 (by simp [go_sem])))
    simp only [World.size_alloc] at ho5
    replace b5 := past_alloc b5
    (replace s0 := keep b5 s0; replace s1 := keep b5 s1; replace s2 := keep b5 s2)
    (replace x0 := keep b5 x0; replace x1 := keep b5 x1; replace x2 := keep b5 x2; replace x3 := keep b5 x3)
    (replace o0 := keep b5 o0; replace o1 := keep b5 o1; replace o2 := keep b5 o2)
    (replace z0 := keep b5 z0; replace z1 := keep b5 z1; replace z2 := keep b5 z2)
    replace ho3 := ho3.keep b5
    replace PA := PA.keep b5
    replace PB := PB.keep b5
    replace HO := HO.keep b5
    replace hb := below_in hb b5
    replace h9 := below_in h9 b5
    have hz5 := b5.size
    have PC : Pol w5 A5 n2 c5 B5 m2 d5 v2.g v2.us v2.qs := ⟨HV2.out.2.2.2.1, HV2.out.2.2.2.2.1, ho5.rd, hq5.rd, G2.out⟩
    have hTC := ho5.1.lt
    clear b5 hq5
    (have y0 := s0; have y1 := s1; have y2 := s2)
    (replace y0 := fun o => keepa y0 o; replace y1 := fun o => keepa y1 o; replace y2 := fun o => keepa y2 o)
    go_wp2_with fail
    generalize hW : w5.alloc _ = W5
    have hbW : Below w5.heap.size w5 W5 := by rw [← hW]; go_grown
    (have f0 : W5.cell? ⟨w5.heap.size, 0, none⟩ = some (.slice A5 n2 c5) := ((by rw [← hW]; simp [go_sem])); have f1 : W5.cell? ⟨w5.heap.size, 1, none⟩ = some (.slice B5 m2 d5) := ((by rw [← hW]; simp [go_sem])); have f2 : W5.cell? ⟨w5.heap.size, 2, none⟩ = some (.int .i64 (v2.g)) := ((by rw [← hW]; simp [go_sem])))
    clear hW y0 y1 y2
    (replace s0 := keep hbW s0; replace s1 := keep hbW s1; replace s2 := keep hbW s2)
    (replace x0 := keep hbW x0; replace x1 := keep hbW x1; replace x2 := keep hbW x2; replace x3 := keep hbW x3)
    (replace o0 := keep hbW o0; replace o1 := keep hbW o1; replace o2 := keep hbW o2)
    (replace z0 := keep hbW z0; replace z1 := keep hbW z1; replace z2 := keep hbW z2)
    (replace r0 := keep hbW r0; replace r1 := keep hbW r1; replace r2 := keep hbW r2)
    replace ho3 := ho3.keep hbW
    replace ho5 := ho5.keep hbW
    replace he5 := he5.keep hbW
    replace PA := PA.keep hbW
    replace PB := PB.keep hbW
    replace PC := PC.keep hbW
    replace HO := HO.keep hbW
    replace hb := below_in hb hbW
    replace h9 := below_in h9 hbW
    clear hbW
    refine (rrun_of v2 es k2 n2 m2 t2 A n c B m d g us qs G p q l HV2 _ (HP.out.keep hb) (HL.out.keep hb)).mono ?_
    rintro e w6 ⟨A6, c6, B6, d6, E6, e6, rfl, ho6, hq6, he6, b6⟩
    (replace s0 := keep b6 s0; replace s1 := keep b6 s1; replace s2 := keep b6 s2)
    (replace x0 := keep b6 x0; replace x1 := keep b6 x1; replace x2 := keep b6 x2; replace x3 := keep b6 x3)
    (replace o0 := keep b6 o0; replace o1 := keep b6 o1; replace o2 := keep b6 o2)
    (replace z0 := keep b6 z0; replace z1 := keep b6 z1; replace z2 := keep b6 z2)
    (replace r0 := keep b6 r0; replace r1 := keep b6 r1; replace r2 := keep b6 r2)
    (replace f0 := keep b6 f0; replace f1 := keep b6 f1; replace f2 := keep b6 f2)
    replace ho3 := ho3.keep b6
    replace ho5 := ho5.keep b6
    replace he5 := he5.keep b6
    replace PA := PA.keep b6
    replace PB := PB.keep b6
    replace PC := PC.keep b6
    replace HO := HO.keep b6
    replace hb := below_in hb b6
    replace h9 := below_in h9 b6
    have PD : Pol w6 A6 n2 c6 B6 m2 d6 v2.g v2.us v2.qs := ⟨HV2.out.2.2.2.1, HV2.out.2.2.2.2.1, ho6.rd, hq6.rd, G2.out⟩
    clear b6 ho6 hq6 HO
    go_wp2_with fail
    generalize hW : w6.alloc _ = W
    have hbW : Below w6.heap.size w6 W := by rw [← hW]; go_grown
    (have i0 : W.cell? ⟨w6.heap.size, 0, none⟩ = some (.slice A6 n2 c6) := ((by rw [← hW]; simp [go_sem])); have i1 : W.cell? ⟨w6.heap.size, 1, none⟩ = some (.slice B6 m2 d6) := ((by rw [← hW]; simp [go_sem])); have i2 : W.cell? ⟨w6.heap.size, 2, none⟩ = some (.int .i64 (v2.g)) := ((by rw [← hW]; simp [go_sem])))
    clear hW
    (replace x0 := keep hbW x0; replace x1 := keep hbW x1; replace x2 := keep hbW x2; replace x3 := keep hbW x3)
    (replace z0 := keep hbW z0; replace z1 := keep hbW z1; replace z2 := keep hbW z2)
    (replace r0 := keep hbW r0; replace r1 := keep hbW r1; replace r2 := keep hbW r2)
    (replace f0 := keep hbW f0; replace f1 := keep hbW f1; replace f2 := keep hbW f2)
    replace ho3 := ho3.keep hbW
    replace ho5 := ho5.keep hbW
    replace he5 := he5.keep hbW
    replace he6 := he6.keep hbW
    replace PA := PA.keep hbW
    replace PB := PB.keep hbW
    replace PC := PC.keep hbW
    replace PD := PD.keep hbW
    replace hb := below_in hb hbW
    replace h9 := below_in h9 hbW
    clear hbW s0 s1 s2 o0 o1 o2
    (have fa0 := Past.all x0; have fa1 := Past.all x1; have fa2 := Past.all x2; have fa3 := Past.all x3)
    (have fb0 := Past.all z0; have fb1 := Past.all z1; have fb2 := Past.all z2)
    (have fc0 := Past.all r0; have fc1 := Past.all r1; have fc2 := Past.all r2)
    (have fd0 := Past.all f0; have fd1 := Past.all f1; have fd2 := Past.all f2)
    (have fe0 := Past.all i0; have fe1 := Past.all i1; have fe2 := Past.all i2)
    refine wp_region_past (by kernel_rfl) (by kernel_rfl) ?_
    repeat (go_big_quiet_step (fail))
    go_big_quiet_step (exact quiet_below (rSame_of true A3 n' c3 B3 m' d3 v.g v.us v.qs A4 n' c4 B4 m' d4 v.g v.us v.qs HT1 _ (PA.keep (Subtype.property _)) (PB.keep (Subtype.property _))))
    repeat (go_big_quiet_step (fail))
    go_big_quiet_step (exact quiet_below (rSame_of true A5 n2 c5 B5 m2 d5 v2.g v2.us v2.qs A6 n2 c6 B6 m2 d6 v2.g v2.us v2.qs HT2 _ (PC.keep (Subtype.property _)) (PD.keep (Subtype.property _))))
    repeat (go_big_quiet_step (fail))
    go_big_quiet_step (exact quiet_below (gcheck_of M u l0 l1 b HX.out HM _))
    repeat (go_big_quiet_step (fail))
    go_big_quiet_step (exact quiet_below (rgcheck_of M u l0 l1 b HM _))
    repeat (go_big_quiet_step (fail))
    refine wpQuiet_nil ?_
    rintro wl ⟨⟨_, hx⟩, rfl⟩
    (replace z0 := keep hx z0; replace z1 := keep hx z1; replace z2 := keep hx z2)
    (replace f0 := keep hx f0; replace f1 := keep hx f1; replace f2 := keep hx f2)
    replace ho3 := ho3.keep hx
    replace ho5 := ho5.keep hx
    replace he5 := he5.keep hx
    replace he6 := he6.keep hx
    replace hb := below_in hb hx
    replace h9 := below_in h9 hx
    clear hx PA PB PC PD fa0 fa1 fa2 fa3 fb0 fb1 fb2 fc0 fc1 fc2 fd0 fd1 fd2 fe0 fe1 fe2 x0 x1 x2 x3 r0 r1 r2 i0 i1 i2
    go_wp2_with fail
    have hra := ho3.1
    unfold Owns at hra
    rw [HV.out.2.2.1] at hra hTA
    have hrc := ho5.1
    unfold Owns at hrc
    rw [HV2.out.2.2.2.1] at hrc hTC
    have HRA := hid ho3
    have HRC := hid ho5
    obtain ⟨ea1, ea2⟩ := row_cap hra
    obtain ⟨eb1, eb2⟩ := row_cap hrc
    have ia1 : (n' : Int) ≤ (c3 : Int) := by omega
    have ia2 : (c3 : Int) ≤ 9223372036854775807 := by omega
    have ib1 : (n2 : Int) ≤ (c5 : Int) := by omega
    have ib2 : (c5 : Int) ≤ 9223372036854775807 := by omega
    have HE := hid HV2.out.2.2.2.2.2
    have ie1 : (t2 : Int) ≤ (e5 : Int) := by have := RdE.len he5; have := HE.out; omega
    have ie2 : (e5 : Int) ≤ 9223372036854775807 := by have := RdE.cap he5; omega
    have if1 : (t2 : Int) ≤ (e6 : Int) := by have := RdE.len he6; have := HE.out; omega
    have if2 : (e6 : Int) ≤ 9223372036854775807 := by have := RdE.cap he6; omega
    have hbool : Hid (∀ k, k < n' → ∃ b, (flat Cl.cs v.us)[k * 3 + 2]? = some (.bool b)) := hid (hbool_of HV.out.2.2.1)
    have hboolc : Hid (∀ k, k < n2 → ∃ b, (flat Cl.cs v2.us)[k * 3 + 2]? = some (.bool b)) := hid (hbool_of HV2.out.2.2.2.1)
    have HA := hid hTA
    have HC := hid hTC
    have X8 := (show Box wl w3.heap.size A3 n' c3 B3 m' d3 v.g from ⟨z0, z1, z2⟩)
    have X12 := (show Box wl w5.heap.size A5 n2 c5 B5 m2 d5 v2.g from ⟨f0, f1, f2⟩)
    have HH9 := hid h9
    clear ho3 ho5 z0 z1 z2 f0 f1 f2 hTA hTC hra hrc ea1 ea2 eb1 eb2 h9 hb
    go_loopw [18, 19] (fun o i wr => ∃ (j : Nat), j ≤ t2 ∧ i = .int .i64 (j : Int) ∧ o = .bool true ∧ Below wl.heap.size wl wr) (fun _ i _ => t2 - (intOf i).toNat)
    case atStart => exact ⟨0, by omega, rfl, rfl, Below.refl _ _⟩
    case round =>
      obtain ⟨j, hj, rfl, rfl, hbr⟩ := hrel
      by_cases hlt : j < t2
      · have hl := HE.out
        obtain ⟨b1, o1, rfl, hcell⟩ := RdE.at_ (he5.keep hbr) (by omega)
        obtain ⟨b2, o2, rfl, hcell'⟩ := RdE.at_ (he6.keep hbr) (by omega)
        have k0 := hcell j (by omega)
        have m0 := hcell' j (by omega)
        generalize es[j]'(by omega) = x at k0 m0
        have hlt2 : (j : Int) < (t2 : Int) := by omega
        clear hcell hcell' hl X8 X12
        go_wp2_with fail
        have q0 := Past.all k0
        have r0 := Past.all m0
        refine wp_region_past (by kernel_rfl) (by kernel_rfl) ?_
        repeat (go_big_quiet_step (fail))
        refine wpQuiet_nil ?_
        rintro w8 ⟨⟨_, hx⟩, rfl⟩
        replace hbr := below_in hbr hx
        clear q0 r0 k0 m0
        go_wp2
        go_roundw
        case rel => exact ⟨j + 1, by omega, by go_num, rfl, hbr⟩
        case measure => simp [intOf]; omega
      · obtain rfl : j = t2 := by omega
        have h9 := below_in HH9.out hbr
        have hra := (HRA.out.keep hbr).1
        have hrc := (HRC.out.keep hbr).1
        unfold Owns at hra hrc
        rw [HV.out.2.2.1] at hra
        rw [HV2.out.2.2.2.1] at hrc
        replace X8 := X8.keep hbr
        replace X12 := X12.keep hbr
        clear he5 he6 hj hlt hbr
        go_wp2_with fail
        go_loopw [20] (fun i wr => ∃ (j : Nat) (xs : List Value), j ≤ n' ∧ i = .int .i64 (j : Int) ∧ wr.ownsRow wA.heap.size 34 3 (.slice A3 n' c3) n' xs ∧ Hid (∀ k, k < n' → ∃ b, xs[k * 3 + 2]? = some (.bool b)) ∧ wr.ownsRow (w4.heap.size + 1) 34 3 (.slice A5 n2 c5) n2 (flat Cl.cs v2.us) ∧ Box wr w3.heap.size A3 n' c3 B3 m' d3 v.g ∧ Box wr w5.heap.size A5 n2 c5 B5 m2 d5 v2.g ∧ Below wA.heap.size wA wr) (fun i _ => n' - (intOf i).toNat)
        case atStart => exact ⟨0, flat Cl.cs v.us, by omega, rfl, hra, hbool, hrc, X8, X12, h9⟩
        case round =>
          clear hra hbool hrc X8 X12 h9
          obtain ⟨j, xs, hj, rfl, hra, hbool, hrc, ⟨z0, z1, z2⟩, X12, h9⟩ := hrel
          by_cases hlt : j < n'
          · obtain ⟨ga, rfl, hga, hgs, -, hcell, hfz⟩ := row_at hra (by omega)
            obtain ⟨b, hbv⟩ := hbool.out j hlt
            have k0 := hcell _ _ hbv
            have f0 := hfz (j * 3 + 2)
            have hgl : ga < w3.heap.size := (HA.out ga rfl).2
            have hgT : ga ≠ w3.heap.size := Nat.ne_of_lt hgl
            have hgT2 : ga ≠ w5.heap.size := by omega
            have hgC : (Value.slice A5 n2 c5).ownBlock ≠ some ga := fun h => by have := (HC.out ga h).1; omega
            have hlt2 : (j : Int) < (n' : Int) := by omega
            have HRA2 := hid hra
            have HRC2 := hid hrc
            clear hra hrc hcell hfz
            go_wp2_with fail
            go_region
            generalize hwd : (wr.setCell _ _).drew = wd
            have n1' : wd.ownsRow wA.heap.size 34 3 (.slice (some ⟨ga, 0, none⟩) n' c3) n' (xs.set (j * 3 + 2) (.bool !b)) := by rw [← hwd]; exact (World.ownsRow.stored HRA2.out (j * 3 + 2) _).1
            have n2' : wd.ownsRow (w4.heap.size + 1) 34 3 (.slice A5 n2 c5) n2 (flat Cl.cs v2.us) := by rw [← hwd]; exact ownsRow_setCell_other HRC2.out hgC _
            have n3' : Box wd w3.heap.size (some ⟨ga, 0, none⟩) n' c3 B3 m' d3 v.g := by rw [← hwd]; exact (Box.far (w := wr) ⟨z0, z1, z2⟩ hgT _ _).drew
            have n6' : Box wd w5.heap.size A5 n2 c5 B5 m2 d5 v2.g := by rw [← hwd]; exact (Box.far (w := wr) X12 hgT2 _ _).drew
            have n4' : Below wA.heap.size wA wd := by rw [← hwd]; exact (h9.setCell hga _).drew
            have N5 := hid (hbool_set (!b) hlt hbool.out)
            clear hwd HRA2 HRC2 k0 f0 z0 z1 z2 X12 hbv h9
            go_wp2
            go_roundw
            case rel => exact ⟨j + 1, _, by omega, by go_num, n1', N5, n2', n3', n6', n4'⟩
            case measure => simp [intOf]; omega
          · obtain rfl : j = n' := by omega
            clear hra hbool hj hlt
            go_wp2_with fail
            clear z0 z1 z2
            go_loopw [21] (fun i wr => ∃ (k : Nat) (ys : List Value), k ≤ n2 ∧ i = .int .i64 (k : Int) ∧ wr.ownsRow (w4.heap.size + 1) 34 3 (.slice A5 n2 c5) n2 ys ∧ Hid (∀ k, k < n2 → ∃ b, ys[k * 3 + 2]? = some (.bool b)) ∧ Box wr w5.heap.size A5 n2 c5 B5 m2 d5 v2.g ∧ Below wA.heap.size wA wr) (fun i _ => n2 - (intOf i).toNat)
            case atStart => exact ⟨0, flat Cl.cs v2.us, by omega, rfl, hrc, hboolc, X12, h9⟩
            case round =>
              clear hrc hboolc X12 h9
              obtain ⟨k, ys, hk, rfl, hrc, hboolc, ⟨z0, z1, z2⟩, h9⟩ := hrel
              by_cases hlt : k < n2
              · obtain ⟨gb, rfl, hgb, hgs, -, hcell, hfz⟩ := row_at hrc (by omega)
                obtain ⟨b, hbv⟩ := hboolc.out k hlt
                have k0 := hcell _ _ hbv
                have f0 := hfz (k * 3 + 2)
                have hgT : gb ≠ w5.heap.size := Nat.ne_of_lt (HC.out gb rfl).2
                have hgA : wA.heap.size ≤ gb := by have := h39; omega
                have hlt2 : (k : Int) < (n2 : Int) := by omega
                have HRC2 := hid hrc
                clear hrc hcell hfz
                go_wp2_with fail
                go_region
                generalize hwd : (wr.setCell _ _).drew = wd
                have n1' : wd.ownsRow (w4.heap.size + 1) 34 3 (.slice (some ⟨gb, 0, none⟩) n2 c5) n2 (ys.set (k * 3 + 2) (.bool !b)) := by rw [← hwd]; exact (World.ownsRow.stored HRC2.out (k * 3 + 2) _).1
                have n3' : Box wd w5.heap.size (some ⟨gb, 0, none⟩) n2 c5 B5 m2 d5 v2.g := by rw [← hwd]; exact (Box.far (w := wr) ⟨z0, z1, z2⟩ hgT _ _).drew
                have n4' : Below wA.heap.size wA wd := by rw [← hwd]; exact (h9.setCell hgA _).drew
                have N5 := hid (hbool_set (!b) hlt hboolc.out)
                clear hwd HRC2 k0 f0 z0 z1 z2 hbv h9
                go_wp2
                go_roundw
                case rel => exact ⟨k + 1, _, by omega, by go_num, n1', N5, n3', n4'⟩
                case measure => simp [intOf]; omega
              · obtain rfl : k = n2 := by omega
                obtain ⟨s0, s1, s2⟩ := HS9.out
                obtain ⟨o0, o1, o2⟩ := HC9.out
                (replace s0 := keep h9 s0; replace s1 := keep h9 s1; replace s2 := keep h9 s2)
                (replace o0 := keep h9 o0; replace o1 := keep h9 o1; replace o2 := keep h9 o2)
                have hbw := below_in hb9.out h9
                clear hrc hlt hk
                go_wp2_with fail
                refine (rSame_of true A' n c' B' m d' g us qs A n c B m d g us qs HT _ (HO9.out.keep h9) (HP.out.keep hbw)).mono ?_
                rintro e wz ⟨rfl, bz⟩
                replace hbw := below_in hbw bz
                go_wp2
                go_ret
                exact ⟨rfl, hbw⟩

set_option maxRecDepth 100000 in
theorem gtells_lifted (os : Os) (started : os.Started) (H : Type) (enc : TypeId × Value → H) :
    ReturnsInHanded {} Try.checked os 4 .any (Rows.grantTellsSpec.pre6 enc Try.prog Try.f4 Rows.grantTellsRow.domain false) (Rows.grantTellsSpec.post enc Try.prog Try.f4 false true false false) := by
  refine returnsInHanded_of_change (C := Try.checked) own started (by kernel_rfl) Try.func4
    (ChangeSpec.witness6 (enc := enc) (C := Try.checked) false ⟨#[], #[.agg #[.slice none 0 0, .slice none 0 0, .int .i64 0], .agg #[.int .i64 0, .int .u8 0, .int .u32 0, .bool false], .slice none 0 0], []⟩ 8 (by kernel_rfl) (by kernel_rfl) (by kernel_rfl) (by kernel_rfl)) ?_
  intro W base args ds gs before hval0 hW _ _
  have hval : ∀ (j : Nat) t v, Try.f4.params[j]? = some t → args[j]? = some v → Value.okWide Try.prog W .any base t v := hval0
  have hW' := hW
  obtain ⟨p, q, hA0, hV, rfl, _, _⟩ := hW
  have hA : DataW.TrodAll enc Try.prog W 0 (fun _ => true) true Try.f4.params.toList args.toList ds p := hA0
  rw [Try.params4] at hA hval
  obtain ⟨v0, v1, v2, d0, d1, d2, p0, p1, p2, rfl, rfl, rfl, h0, h1, h2⟩ := trodAll_three hA
  obtain ⟨rfl, rfl⟩ := trodVars_none hV
  obtain ⟨A, n, c, B, m, d, g, us, qs, rfl, hr⟩ := open_policy (hval 0 _ v0 rfl rfl) h0
  obtain ⟨u, l0, l1, b, rfl, hx⟩ := open_grant (hval 1 _ v1 rfl rfl) h1
  obtain ⟨G, p, q, l, rfl, hs⟩ := open_grants (hval 2 _ v2 rfl rfl) h2
  refine (gtells_walk A n c B m d g us qs u l0 l1 b G p q l hx W hr hs).mono fun e W' ⟨he, hg⟩ => ?_
  subst he
  exact ⟨_, rfl, law_post laidOut (by kernel_rfl) rfl Try.underlying4 rfl rfl hW' hg⟩

theorem gtells_holds : Rows.GrantTellsSaid :=
  OpenClaim.holds_of_wide 4 Try.f4 rfl rfl rfl rfl rfl rfl rfl ⟨rfl, rfl, rfl, rfl, rfl⟩ rfl rfl rfl rfl rfl (by kernel_rfl) Try.func4 (by kernel_rfl)
    (of_decide_eq_true (by kernel_rfl)) (by unfold Func.isWrapper; rw [if_neg (of_decide_eq_false (by kernel_rfl))]; exact ⟨rfl, rfl⟩)
    (fun os started H enc _ => gtells_lifted os started H enc)
#print axioms gtells_holds
end Go.Proofs.Ytbigppdaoakkfaa
