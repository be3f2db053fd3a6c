/-
  Who may open at a label may open at all that are at or below it; nobody may at one that is not at or below the own clearance: the statement PolicyDown. Conditions: the statement's own (at most 100 users and quotas).
-/
import Derived.Test.YtmmjciigbmgloaaPoV
namespace Go.Proofs.Ytmmjciigbmgloaa
open Go.ChangeShapes Go.WideShapes Go.ChangeAt Go.RowKit Go.Joins
set_option linter.unusedVariables false
set_option linter.unusedSimpArgs false

theorem ask_right {us : List Cl} {qs : List Qt} {g l : Int} (h : askB us qs g l = true) : rightB us qs g = true := by
  rw [askB, Bool.and_eq_true] at h; exact h.1
theorem opens_range {us : List Cl} {u l c : Int} (h : opensB us u l c = true) : ∃ j : Nat, u = (j : Int) ∧ ∃ hj : j < us.length, us[j].ok = true ∧ leqB l c us[j].l us[j].c = true := by
  rw [opensB, Bool.and_eq_true, decide_eq_true_eq] at h
  obtain ⟨⟨h0, h1⟩, h2⟩ := h
  have hj : u.toNat < us.length := by omega
  rw [getD_at us zC _ hj, Bool.and_eq_true] at h2
  exact ⟨u.toNat, by omega, hj, h2.1, h2.2⟩
/-- The stage's theorem, in short. -/
theorem opens_down {us : List Cl} {u a0 a1 b0 b1 : Int} (ht : ∀ x ∈ us, x.typed) (ha : Lab a0 a1) (hb : Lab b0 b1) (hab : leqB b0 b1 a0 a1 = true) (h : opensB us u a0 a1 = true) : opensB us u b0 b1 = true := by
  obtain ⟨j, rfl, hj, h1, h2⟩ := opens_range h
  rw [opens_at j hj, h1, Bool.true_and]
  exact leq_trans hb ha (ht _ (List.getElem_mem hj)) hab h2

set_option maxRecDepth 100000 in
set_option maxHeartbeats 4000000 in
theorem pdown_walk (A : Option Addr) (n c : Nat) (B : Option Addr) (m d : Nat) (g : Int) (us : List Cl) (qs : List Qt) (u a0 a1 y0 y1 : Int) (hu : In64 u) (ha : Lab a0 a1) (hb : Lab y0 y1) (w : World) (hp : Pol w A n c B m d g us qs) :
    Calls Try.prog 5 #[.agg #[.slice A n c, .slice B m d, .int .i64 g], .int .i64 u, .agg #[.int .u8 a0, .int .u32 a1], .agg #[.int .u8 y0, .int .u32 y1]] w fun e w' => e = .returned (.bool true) ∧ Below w.heap.size w w' := by
  generalize hG : decide (100 < n ∨ 100 < m) = G
  generalize hR : rightB us qs g = R
  generalize hPa : askB us qs g a0 = pa
  generalize hPb : askB us qs g y0 = pb
  generalize hOa : opensB us u a0 a1 = oa
  generalize hOb : opensB us u y0 y1 = ob
  generalize hL : leqB y0 y1 a0 a1 = le
  have HG := hid hG
  have HR := hid hR
  have HA : Hid ((askB us qs g a0 && opensB us u a0 a1) = (pa && oa) ∧ er (askB us qs g a0) = er pa) := hid ⟨by rw [hPa, hOa], by rw [hPa]⟩
  have HB : Hid ((askB us qs g y0 && opensB us u y0 y1) = (pb && ob) ∧ er (askB us qs g y0) = er pb) := hid ⟨by rw [hPb, hOb], by rw [hPb]⟩
  have HL := hid hL
  have HPa := hid (show pa = true → R = true from fun h => by rw [← hR]; exact ask_right (by rw [hPa]; exact h))
  have HD := hid (show le = true → oa = true → ob = true from fun h1 h2 => by rw [← hOb]; exact opens_down hp.hu.2 ha hb (by rw [hL]; exact h1) (by rw [hOa]; exact h2))
  have HO := hid (show oa = true → ∃ j : Nat, u = (j : Int) ∧ ∃ hj : j < us.length, us[j].ok = true ∧ leqB a0 a1 us[j].l us[j].c = true from fun h => opens_range (by rw [hOa]; exact h))
  have HP := hid hp
  clear hG hR hPa hPb hOa hOb hL hp hu ha hb
  go_enter Try.func5, Try.ntmps5
  go_wp2_with fail
  refine (alive_any _).mono ?_
  rintro e w1 ⟨rfl, b1⟩
  (have s0 : w1.cell? ⟨w.heap.size, 0, none⟩ = some (.slice A n c) := (keep b1 (by simp [go_sem])); have s1 : w1.cell? ⟨w.heap.size, 1, none⟩ = some (.slice B m d) := (keep b1 (by simp [go_sem])); have s2 : w1.cell? ⟨w.heap.size, 2, none⟩ = some (.int .i64 g) := (keep b1 (by simp [go_sem])))
  (have t0 : w1.cell? ⟨w.heap.size + 1, 0, none⟩ = some (.int .u8 a0) := (keep b1 (by simp [go_sem])); have t1 : w1.cell? ⟨w.heap.size + 1, 1, none⟩ = some (.int .u32 a1) := (keep b1 (by simp [go_sem])))
  (have v0 : w1.cell? ⟨w.heap.size + 1 + 1, 0, none⟩ = some (.int .u8 y0) := (keep b1 (by simp [go_sem])); have v1 : w1.cell? ⟨w.heap.size + 1 + 1, 1, none⟩ = some (.int .u32 y1) := (keep b1 (by simp [go_sem])))
  have hb := past_alloc3 b1
  clear b1
  go_wp2_with fail
  refine (great_of G A n c B m d g HG _).mono ?_
  rintro e w2 ⟨rfl, b2⟩
  (replace s0 := keep b2 s0; replace s1 := keep b2 s1; replace s2 := keep b2 s2)
  (replace t0 := keep b2 t0; replace t1 := keep b2 t1)
  (replace v0 := keep b2 v0; replace v1 := keep b2 v1)
  replace hb := below_in hb b2
  clear b2
  cases G
  case true =>
    go_wp2
    go_ret
    exact ⟨rfl, hb⟩
  go_wp2_with fail
  refine (may_of (pa && oa) (er pa) A n c B m d g us qs u a0 a1 HA _ (HP.out.keep hb)).mono ?_
  rintro e w3 ⟨rfl, b3⟩
  (replace s0 := keep b3 s0; replace s1 := keep b3 s1; replace s2 := keep b3 s2)
  (replace t0 := keep b3 t0; replace t1 := keep b3 t1)
  (replace v0 := keep b3 v0; replace v1 := keep b3 v1)
  replace hb := below_in hb b3
  clear b3
  go_wp2_with fail
  refine (may_of (pb && ob) (er pb) A n c B m d g us qs u y0 y1 HB _ (HP.out.keep hb)).mono ?_
  rintro e w4 ⟨rfl, b4⟩
  (replace s0 := keep b4 s0; replace s1 := keep b4 s1; replace s2 := keep b4 s2)
  (replace t0 := keep b4 t0; replace t1 := keep b4 t1)
  (replace v0 := keep b4 v0; replace v1 := keep b4 v1)
  replace hb := below_in hb b4
  clear b4
  have e0 : er true = 0 := rfl
  have e8 : er false = 8 := rfl
  cases pa
  · cases pb
    · simp only [Bool.false_and, e8]
      go_wp2
      go_ret
      exact ⟨rfl, hb⟩
    · simp only [Bool.false_and, e8, e0]
      go_wp2
      go_ret
      exact ⟨rfl, hb⟩
  obtain rfl := HPa.out rfl
  cases pb
  · simp only [Bool.false_and, Bool.true_and, e8, e0]
    cases le
    · go_wp2_with fail
      go_call leq_of false y0 y1 a0 a1 HL.out _ as e w5 ⟨rfl, b5⟩
      replace hb := below_in hb b5
      go_wp2
      go_ret
      exact ⟨rfl, hb⟩
    · go_wp2_with fail
      go_call leq_of true y0 y1 a0 a1 HL.out _ as e w5 ⟨rfl, b5⟩
      (replace s0 := keep b5 s0; replace s1 := keep b5 s1; replace s2 := keep b5 s2)
      replace hb := below_in hb b5
      clear b5
      go_wp2_with fail
      refine (check_of true A n c B m d g us qs HR _ (HP.out.keep hb)).mono ?_
      rintro e w6 ⟨rfl, b6⟩
      rw [e0]
      replace hb := below_in hb b6
      go_wp2
      go_ret
      exact ⟨rfl, hb⟩
  · simp only [Bool.true_and, e0]
    cases oa
    · cases le
      · go_wp2_with fail
        go_call leq_of false y0 y1 a0 a1 HL.out _ as e w5 ⟨rfl, b5⟩
        (replace s0 := keep b5 s0; replace s1 := keep b5 s1; replace s2 := keep b5 s2)
        (replace t0 := keep b5 t0; replace t1 := keep b5 t1)
        replace hb := below_in hb b5
        clear b5
        go_wp2_with fail
        (have q0 := Past.all s0; have q1 := Past.all s1; have q2 := Past.all s2)
        (have r0 := Past.all t0; have r1 := Past.all t1)
        refine wp_region_past (by kernel_rfl) (by kernel_rfl) ?_
        repeat (go_big_quiet_step (fail))
        refine wpQuiet_nil ?_
        rintro w6 ⟨⟨_, hx⟩, rfl⟩
        replace hb := below_in hb hx
        go_wp2
        go_ret
        exact ⟨rfl, hb⟩
      · go_wp2_with fail
        go_call leq_of true y0 y1 a0 a1 HL.out _ as e w5 ⟨rfl, b5⟩
        (replace s0 := keep b5 s0; replace s1 := keep b5 s1; replace s2 := keep b5 s2)
        (replace t0 := keep b5 t0; replace t1 := keep b5 t1)
        replace hb := below_in hb b5
        clear b5
        go_wp2_with fail
        (have q0 := Past.all s0; have q1 := Past.all s1; have q2 := Past.all s2)
        (have r0 := Past.all t0; have r1 := Past.all t1)
        refine wp_region_past (by kernel_rfl) (by kernel_rfl) ?_
        repeat (go_big_quiet_step (fail))
        refine wpQuiet_nil ?_
        rintro w6 ⟨⟨_, hx⟩, rfl⟩
        replace hb := below_in hb hx
        go_wp2
        go_ret
        exact ⟨rfl, hb⟩
    · obtain ⟨j, rfl, hj, k1, k2⟩ := HO.out rfl
      have hn := HP.out.hn
      have hc2 : (c : Int) ≤ 9223372036854775807 := by have := HP.out.hu.cap; omega
      have hc1 : (n : Int) ≤ c := by have := HP.out.hu.len; omega
      have hjn : (j : Int) < (n : Int) := by omega
      have d1 : decide (0 ≤ (j : Int)) = true := decide_eq_true (by omega)
      have d2 : decide ((j : Int) < (n : Int)) = true := decide_eq_true hjn
      obtain ⟨b, o, rfl, hcell⟩ := HP.out.hu.at_ (by omega)
      obtain ⟨c0, c1, c2, ht⟩ := hcell j hj
      generalize us[j] = x at c0 c1 c2 ht k1 k2
      obtain ⟨x0, x1, x2⟩ := x
      have HK : Hid (leqB a0 a1 x0 x1 = true) := hid k2
      clear hcell c2 ht k1 k2 HO hn
      cases le
      · go_wp2_with fail
        go_call leq_of false y0 y1 a0 a1 HL.out _ as e w5 ⟨rfl, b5⟩
        (replace s0 := keep b5 s0; replace s1 := keep b5 s1; replace s2 := keep b5 s2)
        (replace t0 := keep b5 t0; replace t1 := keep b5 t1)
        replace hb := below_in hb b5
        replace c0 := keep hb c0
        replace c1 := keep hb c1
        clear b5 v0 v1
        go_wp2_with fail
        (have q0 := Past.all s0; have q1 := Past.all s1; have q2 := Past.all s2)
        (have r0 := Past.all t0; have r1 := Past.all t1)
        (have z0 := Past.all c0; have z1 := Past.all c1)
        refine wp_region_past (by kernel_rfl) (by kernel_rfl) ?_
        repeat (go_big_quiet_step (exact quiet_below (leq_of true a0 a1 x0 x1 HK.out _)))
        refine wpQuiet_nil ?_
        rintro w6 ⟨⟨_, hx⟩, rfl⟩
        replace hb := below_in hb hx
        go_wp2
        go_ret
        exact ⟨rfl, hb⟩
      · obtain rfl := HD.out rfl rfl
        go_wp2_with fail
        go_call leq_of true y0 y1 a0 a1 HL.out _ as e w5 ⟨rfl, b5⟩
        (replace s0 := keep b5 s0; replace s1 := keep b5 s1; replace s2 := keep b5 s2)
        (replace t0 := keep b5 t0; replace t1 := keep b5 t1)
        replace hb := below_in hb b5
        replace c0 := keep hb c0
        replace c1 := keep hb c1
        clear b5 v0 v1
        go_wp2_with fail
        (have q0 := Past.all s0; have q1 := Past.all s1; have q2 := Past.all s2)
        (have r0 := Past.all t0; have r1 := Past.all t1)
        (have z0 := Past.all c0; have z1 := Past.all c1)
        refine wp_region_past (by kernel_rfl) (by kernel_rfl) ?_
        repeat (go_big_quiet_step (exact quiet_below (leq_of true a0 a1 x0 x1 HK.out _)))
        refine wpQuiet_nil ?_
        rintro w6 ⟨⟨_, hx⟩, rfl⟩
        replace hb := below_in hb hx
        go_wp2
        go_ret
        exact ⟨rfl, hb⟩

set_option maxRecDepth 100000 in
theorem pdown_lifted (os : Os) (started : os.Started) (H : Type) (enc : TypeId × Value → H) :
    ReturnsInHanded {} Try.checked os 5 .any (Rows.policyDownSpec.pre6 enc Try.prog Try.f5 Rows.policyDownRow.domain false) (Rows.policyDownSpec.post enc Try.prog Try.f5 false true false false) := by
  refine returnsInHanded_of_change (C := Try.checked) own started (by kernel_rfl) Try.func5
    (ChangeSpec.witness6 (enc := enc) (C := Try.checked) false ⟨#[], #[.agg #[.slice none 0 0, .slice none 0 0, .int .i64 0], .int .i64 0, .agg #[.int .u8 0, .int .u32 0], .agg #[.int .u8 0, .int .u32 0]], []⟩ 8 (by kernel_rfl) (by kernel_rfl) (by kernel_rfl) (by kernel_rfl)) ?_
  intro W base args ds gs before hval0 hW _ _
  have hval : ∀ (j : Nat) t v, Try.f5.params[j]? = some t → args[j]? = some v → Value.okWide Try.prog W .any base t v := hval0
  have hW' := hW
  obtain ⟨p, q, hA0, hV, rfl, _, _⟩ := hW
  have hA : DataW.TrodAll enc Try.prog W 0 (fun _ => true) true Try.f5.params.toList args.toList ds p := hA0
  rw [Try.params5] at hA hval
  obtain ⟨v0, v1, v2, v3, d0, d1, d2, d3, p0, p1, p2, p3, rfl, rfl, rfl, h0, h1, h2, h3⟩ := trodAll_four hA
  obtain ⟨rfl, rfl⟩ := trodVars_none hV
  obtain ⟨A, n, c, B, m, d, g, us, qs, rfl, hr⟩ := open_policy (hval 0 _ v0 rfl rfl) h0
  obtain ⟨u, rfl, hu⟩ := open_i64 (hval 1 _ v1 rfl rfl) h1
  obtain ⟨a0, a1, rfl, ha⟩ := open_label (hval 2 _ v2 rfl rfl) h2
  obtain ⟨y0, y1, rfl, hb⟩ := open_label (hval 3 _ v3 rfl rfl) h3
  refine (pdown_walk A n c B m d g us qs u a0 a1 y0 y1 hu ha hb W hr).mono fun e W' ⟨he, hg⟩ => ?_
  subst he
  exact ⟨_, rfl, law_post laidOut (by kernel_rfl) rfl Try.underlying4 rfl rfl hW' hg⟩

theorem pdown_holds : Rows.PolicyDownSaid :=
  OpenClaim.holds_of_wide 5 Try.f5 rfl rfl rfl rfl rfl rfl rfl ⟨rfl, rfl, rfl, rfl, rfl⟩ rfl rfl rfl rfl rfl (by kernel_rfl) Try.func5 (by kernel_rfl)
    (of_decide_eq_true (by kernel_rfl)) (by unfold Func.isWrapper; rw [if_neg (of_decide_eq_false (by kernel_rfl))]; exact ⟨rfl, rfl⟩)
    (fun os started H enc _ => pdown_lifted os started H enc)
#print axioms pdown_holds
end Go.Proofs.Ytmmjciigbmgloaa
