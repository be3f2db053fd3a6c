/-
  The limits and errors have their numbers, and the chapter's examples are so: the statement IdsNames. Conditions: none.
-/
import Derived.Test.YtpmpngdejikhhaaIdB
import Derived.Test.YtpmpngdejikhhaaIdC
namespace Go.Proofs.Ytpmpngdejikhhaa
open Go.ChangeShapes Go.WideShapes Go.ChangeAt Go.RowKit Go.Joins
set_option linter.unusedVariables false
set_option linter.unusedSimpArgs false

theorem checkHandle_of (j : Int) (l c k : Int) (h : Hid (er (mayH l k) = j)) (w : World) :
    Calls Try.prog 17 #[.agg #[.int .u8 l, .int .u32 c, .int .u8 k]] w fun e w' => e = .returned (.int .i64 j) ∧ Below w.heap.size w w' := by
  rw [← h.out]; exact checkHandle_any l c k w

theorem field_by (w : World) (l c k n : Int) : (Instr.field 28 (.agg #[.int .u8 l, .int .u32 c, .int .u8 k, .int .i64 n]) 0).run Try.prog w = .ok (.agg #[.int .u8 l, .int .u32 c, .int .u8 k]) w := by
  have h := Try.underlying28
  simp [go_sem, Instr.field, run_underlying h, part, asAgg]

set_option maxRecDepth 100000 in
set_option maxHeartbeats 4000000 in
theorem inames_walk (w : World) :
    Calls Try.prog 3 #[] w fun e w' => e = .returned (.bool true) ∧ Below w.heap.size w w' := by
  have H1 : Hid (hasB 1 1 2 9 3 1 1 2 11 = true ∧ pick true (11 - 9) = 2) := hid (by decide +kernel)
  have H2 : Hid (hasB 1 1 2 9 3 1 1 2 12 = false ∧ pick false (12 - 9) = 0) := hid (by decide +kernel)
  have H3 : Hid (cutB 1 2 9 3 1 = true ∧ cutE 1 2 9 3 1 = 0 ∧ pick true 1 = 1 ∧ pick true 1 = 1 ∧ pick true 2 = 2 ∧ pick true 9 = 9 ∧ pick true 1 = 1 ∧ pick true (9 + 1) = 10 ∧ pick true (3 - 1) = 2) := hid (by decide +kernel)
  have H4 : Hid (atB 1 2 9 3 3 = false ∧ atE 1 2 9 3 3 = 2 ∧ pick false 1 = 0 ∧ pick false 1 = 0 ∧ pick false 2 = 0 ∧ pick false (9 + 3) = 0) := hid (by decide +kernel)
  have H5 : Hid (cutB 1 2 9 3 0 = false ∧ cutE 1 2 9 3 0 = 2 ∧ pick false 1 = 0 ∧ pick false 1 = 0 ∧ pick false 2 = 0 ∧ pick false 9 = 0 ∧ pick false 0 = 0 ∧ pick false (9 + 0) = 0 ∧ pick false (3 - 0) = 0) := hid (by decide +kernel)
  have H6 : Hid (okI [] = false ∧ er false = 8 ∧ pick false (gL []) = 0 ∧ pick false (gC []) = 0 ∧ pick false (gK []) = 0 ∧ pick false (gN []) = 0) := hid (by decide +kernel)
  have H7 : Hid ((if mayH 1 8 = true then hby 1 1 8 else []) = [] ∧ ([] : List UInt8).length = 0 ∧ er (mayH 1 8) = 8) := hid (by decide +kernel)
  have HN : Hid (Hn 1 1 8 1 1 8) := hid ⟨by decide, by decide, by decide, by decide, by decide, by decide⟩
  have J1 : Hid (er (mayI 1 2 0) = 8) := hid (by decide +kernel)
  have J2 : Hid (er (mayH 1 8) = 8) := hid (by decide +kernel)
  have J3 : Hid (er (mayS 1 2 9 65) = 8) := hid (by decide +kernel)
  have J4 : Hid (er (mayS 1 2 1099511627776 2) = 8) := hid (by decide +kernel)
  have J5 : Hid (er (mayS 1 2 9 3) = 0) := hid (by decide +kernel)
  have hE := eql_span
  have hF := field_by
  have z1 : sameS 1 1 2 9 1 1 1 2 9 1 = true := by decide +kernel
  have z2 : sameS 1 1 2 10 2 1 1 2 10 2 = true := by decide +kernel
  go_enter Try.func3, Try.ntmps3
  go_wp2_with fail
  go_call by_any 1 2 9 _ as e w1 ⟨rfl, hb⟩
  go_wp2_with fail
  generalize hW : w1.alloc _ = W
  have hbW : Below w.heap.size w W := by subst hW; exact hb.alloc hb.size _
  (have s0 : W.cell? ⟨w1.heap.size, 0, none⟩ = some (.int .u8 1) := ((by subst hW; simp [go_sem])); have s1 : W.cell? ⟨w1.heap.size, 1, none⟩ = some (.int .u32 1) := ((by subst hW; simp [go_sem])); have s2 : W.cell? ⟨w1.heap.size, 2, none⟩ = some (.int .u8 2) := ((by subst hW; simp [go_sem])); have s3 : W.cell? ⟨w1.heap.size, 3, none⟩ = some (.int .i64 9) := ((by subst hW; simp [go_sem])); have s4 : W.cell? ⟨w1.heap.size, 4, none⟩ = some (.int .i64 3) := ((by subst hW; simp [go_sem])))
  clear hW
  (have q0 := Past.all s0; have q1 := Past.all s1; have q2 := Past.all s2; have q3 := Past.all s3; have q4 := Past.all s4)
  refine wp_region_past (by kernel_rfl) (by kernel_rfl) ?_
  repeat (go_big_quiet_step (first | exact quiet_below (by_any _ _ _ _) | exact quiet_below (has_of true 2 1 1 2 9 3 1 1 2 11 (by decide) (by decide) H1 _)))
  refine wpQuiet_nil ?_
  rintro w2 ⟨⟨_, hx⟩, rfl⟩
  replace hbW := below_in hbW hx
  (replace s0 := keep hx s0; replace s1 := keep hx s1; replace s2 := keep hx s2; replace s3 := keep hx s3; replace s4 := keep hx s4)
  clear hx q0 q1 q2 q3 q4 H1
  go_wp2_with fail
  (have q0 := Past.all s0; have q1 := Past.all s1; have q2 := Past.all s2; have q3 := Past.all s3; have q4 := Past.all s4)
  refine wp_region_past (by kernel_rfl) (by kernel_rfl) ?_
  repeat (go_big_quiet_step (first | exact quiet_below (by_any _ _ _ _) | exact quiet_below (has_of false 0 1 1 2 9 3 1 1 2 12 (by decide) (by decide) H2 _)))
  refine wpQuiet_nil ?_
  rintro w3 ⟨⟨_, hx⟩, rfl⟩
  replace hbW := below_in hbW hx
  (replace s0 := keep hx s0; replace s1 := keep hx s1; replace s2 := keep hx s2; replace s3 := keep hx s3; replace s4 := keep hx s4)
  clear hx q0 q1 q2 q3 q4 H2
  go_wp2_with fail
  refine (cut_of true 0 1 1 2 9 1 10 2 1 1 2 9 3 1 H3 _).mono ?_
  rintro e w4 ⟨rfl, b4⟩
  replace hbW := below_in hbW b4
  (replace s0 := keep b4 s0; replace s1 := keep b4 s1; replace s2 := keep b4 s2; replace s3 := keep b4 s3; replace s4 := keep b4 s4)
  (replace s0 := fun o1 o2 => keepa (keepa s0 o1) o2; replace s1 := fun o1 o2 => keepa (keepa s1 o1) o2; replace s2 := fun o1 o2 => keepa (keepa s2 o1) o2; replace s3 := fun o1 o2 => keepa (keepa s3 o1) o2; replace s4 := fun o1 o2 => keepa (keepa s4 o1) o2)
  clear b4 H3
  go_wp2_with fail
  refine (at_of false 2 0 0 0 0 1 1 2 9 3 3 H4 _).mono ?_
  rintro e w5 ⟨rfl, b5⟩
  (have u0 : w5.cell? ⟨w4.heap.size, 0, none⟩ = some (.int .u8 1) := (keep b5 (by simp [go_sem])); have u1 : w5.cell? ⟨w4.heap.size, 1, none⟩ = some (.int .u32 1) := (keep b5 (by simp [go_sem])); have u2 : w5.cell? ⟨w4.heap.size, 2, none⟩ = some (.int .u8 2) := (keep b5 (by simp [go_sem])); have u3 : w5.cell? ⟨w4.heap.size, 3, none⟩ = some (.int .i64 9) := (keep b5 (by simp [go_sem])); have u4 : w5.cell? ⟨w4.heap.size, 4, none⟩ = some (.int .i64 1) := (keep b5 (by simp [go_sem])))
  (have v0 : w5.cell? ⟨w4.heap.size + 1, 0, none⟩ = some (.int .u8 1) := (keep b5 (by simp [go_sem])); have v1 : w5.cell? ⟨w4.heap.size + 1, 1, none⟩ = some (.int .u32 1) := (keep b5 (by simp [go_sem])); have v2 : w5.cell? ⟨w4.heap.size + 1, 2, none⟩ = some (.int .u8 2) := (keep b5 (by simp [go_sem])); have v3 : w5.cell? ⟨w4.heap.size + 1, 3, none⟩ = some (.int .i64 10) := (keep b5 (by simp [go_sem])); have v4 : w5.cell? ⟨w4.heap.size + 1, 4, none⟩ = some (.int .i64 2) := (keep b5 (by simp [go_sem])))
  (replace s0 := keep b5 (s0 _ _); replace s1 := keep b5 (s1 _ _); replace s2 := keep b5 (s2 _ _); replace s3 := keep b5 (s3 _ _); replace s4 := keep b5 (s4 _ _))
  replace b5 := past_alloc2 b5
  replace hbW := below_in hbW b5
  (replace s0 := fun o => keepa s0 o; replace s1 := fun o => keepa s1 o; replace s2 := fun o => keepa s2 o; replace s3 := fun o => keepa s3 o; replace s4 := fun o => keepa s4 o)
  (replace u0 := fun o => keepa u0 o; replace u1 := fun o => keepa u1 o; replace u2 := fun o => keepa u2 o; replace u3 := fun o => keepa u3 o; replace u4 := fun o => keepa u4 o)
  (replace v0 := fun o => keepa v0 o; replace v1 := fun o => keepa v1 o; replace v2 := fun o => keepa v2 o; replace v3 := fun o => keepa v3 o; replace v4 := fun o => keepa v4 o)
  clear b5 H4
  go_wp2_with fail
  refine (cut_of false 2 0 0 0 0 0 0 0 1 1 2 9 3 0 H5 _).mono ?_
  rintro e w6 ⟨rfl, b6⟩
  (replace s0 := keep b6 (s0 _); replace s1 := keep b6 (s1 _); replace s2 := keep b6 (s2 _); replace s3 := keep b6 (s3 _); replace s4 := keep b6 (s4 _))
  (replace u0 := keep b6 (u0 _); replace u1 := keep b6 (u1 _); replace u2 := keep b6 (u2 _); replace u3 := keep b6 (u3 _); replace u4 := keep b6 (u4 _))
  (replace v0 := keep b6 (v0 _); replace v1 := keep b6 (v1 _); replace v2 := keep b6 (v2 _); replace v3 := keep b6 (v3 _); replace v4 := keep b6 (v4 _))
  replace b6 := past_alloc b6
  replace hbW := below_in hbW b6
  (replace s0 := fun o1 o2 => keepa (keepa s0 o1) o2; replace s1 := fun o1 o2 => keepa (keepa s1 o1) o2; replace s2 := fun o1 o2 => keepa (keepa s2 o1) o2; replace s3 := fun o1 o2 => keepa (keepa s3 o1) o2; replace s4 := fun o1 o2 => keepa (keepa s4 o1) o2)
  (replace u0 := fun o1 o2 => keepa (keepa u0 o1) o2; replace u1 := fun o1 o2 => keepa (keepa u1 o1) o2; replace u2 := fun o1 o2 => keepa (keepa u2 o1) o2; replace u3 := fun o1 o2 => keepa (keepa u3 o1) o2; replace u4 := fun o1 o2 => keepa (keepa u4 o1) o2)
  (replace v0 := fun o1 o2 => keepa (keepa v0 o1) o2; replace v1 := fun o1 o2 => keepa (keepa v1 o1) o2; replace v2 := fun o1 o2 => keepa (keepa v2 o1) o2; replace v3 := fun o1 o2 => keepa (keepa v3 o1) o2; replace v4 := fun o1 o2 => keepa (keepa v4 o1) o2)
  clear b6 H5
  go_wp2_with fail
  refine (get_j 8 false 0 0 0 0 none 0 0 [] (hid rfl) H6 _ (Rd.nil _)).mono ?_
  rintro e w7 ⟨rfl, b7⟩
  (replace s0 := keep b7 (s0 _ _); replace s1 := keep b7 (s1 _ _); replace s2 := keep b7 (s2 _ _); replace s3 := keep b7 (s3 _ _); replace s4 := keep b7 (s4 _ _))
  (replace u0 := keep b7 (u0 _ _); replace u1 := keep b7 (u1 _ _); replace u2 := keep b7 (u2 _ _); replace u3 := keep b7 (u3 _ _); replace u4 := keep b7 (u4 _ _))
  (replace v0 := keep b7 (v0 _ _); replace v1 := keep b7 (v1 _ _); replace v2 := keep b7 (v2 _ _); replace v3 := keep b7 (v3 _ _); replace v4 := keep b7 (v4 _ _))
  replace b7 := past_alloc2 b7
  replace hbW := below_in hbW b7
  (replace s0 := fun o => keepa s0 o; replace s1 := fun o => keepa s1 o; replace s2 := fun o => keepa s2 o; replace s3 := fun o => keepa s3 o; replace s4 := fun o => keepa s4 o)
  (replace u0 := fun o => keepa u0 o; replace u1 := fun o => keepa u1 o; replace u2 := fun o => keepa u2 o; replace u3 := fun o => keepa u3 o; replace u4 := fun o => keepa u4 o)
  (replace v0 := fun o => keepa v0 o; replace v1 := fun o => keepa v1 o; replace v2 := fun o => keepa v2 o; replace v3 := fun o => keepa v3 o; replace v4 := fun o => keepa v4 o)
  clear b7 H6
  go_wp2_with fail
  go_call by_any 1 8 1 _ as e w8 ⟨rfl, b8⟩
  (replace s0 := keep b8 (s0 _); replace s1 := keep b8 (s1 _); replace s2 := keep b8 (s2 _); replace s3 := keep b8 (s3 _); replace s4 := keep b8 (s4 _))
  (replace u0 := keep b8 (u0 _); replace u1 := keep b8 (u1 _); replace u2 := keep b8 (u2 _); replace u3 := keep b8 (u3 _); replace u4 := keep b8 (u4 _))
  (replace v0 := keep b8 (v0 _); replace v1 := keep b8 (v1 _); replace v2 := keep b8 (v2 _); replace v3 := keep b8 (v3 _); replace v4 := keep b8 (v4 _))
  replace b8 := past_alloc b8
  replace hbW := below_in hbW b8
  clear b8
  go_wp2_with fail
  refine (putHandle_of [] 0 8 1 1 8 1 1 8 HN H7 _).mono ?_
  rintro e w9 ⟨A9, c9, rfl, hr9, b9⟩
  replace hbW := below_in hbW b9
  (replace s0 := keep b9 s0; replace s1 := keep b9 s1; replace s2 := keep b9 s2; replace s3 := keep b9 s3; replace s4 := keep b9 s4)
  (replace u0 := keep b9 u0; replace u1 := keep b9 u1; replace u2 := keep b9 u2; replace u3 := keep b9 u3; replace u4 := keep b9 u4)
  (replace v0 := keep b9 v0; replace v1 := keep b9 v1; replace v2 := keep b9 v2; replace v3 := keep b9 v3; replace v4 := keep b9 v4)
  clear b9 H7 HN hr9
  go_wp2_with fail
  (have q0 := Past.all u0; have q1 := Past.all u1; have q2 := Past.all u2; have q3 := Past.all u3; have q4 := Past.all u4)
  (have r0 := Past.all v0; have r1 := Past.all v1; have r2 := Past.all v2; have r3 := Past.all v3; have r4 := Past.all v4)
  refine wp_region_past (by kernel_rfl) (by kernel_rfl) ?_
  repeat (go_big_quiet_step (exact quiet_below (by_any _ _ _ _)))
  refine wpQuiet_nil ?_
  rintro w10 ⟨⟨_, hx⟩, rfl⟩
  replace hbW := below_in hbW hx
  (replace s0 := keep hx s0; replace s1 := keep hx s1; replace s2 := keep hx s2; replace s3 := keep hx s3; replace s4 := keep hx s4)
  clear hx q0 q1 q2 q3 q4 r0 r1 r2 r3 r4 u0 u1 u2 u3 u4 v0 v1 v2 v3 v4
  go_wp2_with fail
  refine (alive_any _).mono ?_
  rintro e x11 ⟨rfl, b11⟩
  replace hbW := below_in hbW b11
  (replace s0 := keep b11 s0; replace s1 := keep b11 s1; replace s2 := keep b11 s2; replace s3 := keep b11 s3; replace s4 := keep b11 s4)
  clear b11
  go_wp2_with fail
  refine (by_any 1 2 0 _).mono ?_
  rintro e x12 ⟨rfl, b12⟩
  replace hbW := below_in hbW b12
  (replace s0 := keep b12 s0; replace s1 := keep b12 s1; replace s2 := keep b12 s2; replace s3 := keep b12 s3; replace s4 := keep b12 s4)
  clear b12
  go_wp2_with fail
  refine (check_of 8 1 1 2 0 J1 _).mono ?_
  rintro e x13 ⟨rfl, b13⟩
  replace hbW := below_in hbW b13
  (replace s0 := keep b13 s0; replace s1 := keep b13 s1; replace s2 := keep b13 s2; replace s3 := keep b13 s3; replace s4 := keep b13 s4)
  clear b13
  go_wp2_with fail
  refine (by_any 1 8 1 _).mono ?_
  rintro e x14 ⟨rfl, b14⟩
  replace hbW := below_in hbW b14
  (replace s0 := keep b14 s0; replace s1 := keep b14 s1; replace s2 := keep b14 s2; replace s3 := keep b14 s3; replace s4 := keep b14 s4)
  clear b14
  go_wp2_with fail
  refine (checkHandle_of 8 1 1 8 J2 _).mono ?_
  rintro e x15 ⟨rfl, b15⟩
  replace hbW := below_in hbW b15
  (replace s0 := keep b15 s0; replace s1 := keep b15 s1; replace s2 := keep b15 s2; replace s3 := keep b15 s3; replace s4 := keep b15 s4)
  clear b15
  go_wp2_with fail
  refine (by_any 1 2 9 _).mono ?_
  rintro e x16 ⟨rfl, b16⟩
  replace hbW := below_in hbW b16
  (replace s0 := keep b16 s0; replace s1 := keep b16 s1; replace s2 := keep b16 s2; replace s3 := keep b16 s3; replace s4 := keep b16 s4)
  clear b16
  go_wp2_with fail
  refine (checkSpan_of 8 1 1 2 9 65 J3 _).mono ?_
  rintro e x17 ⟨rfl, b17⟩
  replace hbW := below_in hbW b17
  (replace s0 := keep b17 s0; replace s1 := keep b17 s1; replace s2 := keep b17 s2; replace s3 := keep b17 s3; replace s4 := keep b17 s4)
  clear b17
  go_wp2_with fail
  refine (by_any 1 2 1099511627776 _).mono ?_
  rintro e x18 ⟨rfl, b18⟩
  replace hbW := below_in hbW b18
  (replace s0 := keep b18 s0; replace s1 := keep b18 s1; replace s2 := keep b18 s2; replace s3 := keep b18 s3; replace s4 := keep b18 s4)
  clear b18
  go_wp2_with fail
  refine (checkSpan_of 8 1 1 2 1099511627776 2 J4 _).mono ?_
  rintro e x19 ⟨rfl, b19⟩
  replace hbW := below_in hbW b19
  (replace s0 := keep b19 s0; replace s1 := keep b19 s1; replace s2 := keep b19 s2; replace s3 := keep b19 s3; replace s4 := keep b19 s4)
  clear b19
  go_wp2_with fail
  refine (checkSpan_of 0 1 1 2 9 3 J5 _).mono ?_
  rintro e x20 ⟨rfl, b20⟩
  replace hbW := below_in hbW b20
  clear b20
  go_wp2_with fail
  go_ret
  exact ⟨rfl, hbW⟩


set_option maxRecDepth 100000 in
theorem inames_lifted (os : Os) (started : os.Started) (H : Type) (enc : TypeId × Value → H) :
    ReturnsInHanded {} Try.checked os 3 .any (Rows.idsNamesSpec.pre6 enc Try.prog Try.f3 Rows.idsNamesRow.domain false) (Rows.idsNamesSpec.post enc Try.prog Try.f3 false true false false) := by
  refine returnsInHanded_of_change (C := Try.checked) own started (by kernel_rfl) Try.func3
    (ChangeSpec.witness6 (enc := enc) (C := Try.checked) false ⟨#[], #[], []⟩ 8 (by kernel_rfl) (by kernel_rfl) (by kernel_rfl) (by kernel_rfl)) ?_
  intro W base args ds gs before hval0 hW _ _
  have hval : ∀ (j : Nat) t v, Try.f3.params[j]? = some t → args[j]? = some v → Value.okWide Try.prog W .any base t v := hval0
  have hW' := hW
  obtain ⟨p, q, hA0, hV, rfl, _, _⟩ := hW
  have hA : DataW.TrodAll enc Try.prog W 0 (fun _ => true) true Try.f3.params.toList args.toList ds p := hA0
  rw [Try.params3] at hA hval
  obtain ⟨rfl, rfl, rfl⟩ := trodAll_none hA
  obtain ⟨rfl, rfl⟩ := trodVars_none hV
  refine (inames_walk  W).mono fun e W' ⟨he, hg⟩ => ?_
  subst he
  exact ⟨_, rfl, law_post laidOut (by kernel_rfl) rfl Try.underlying4 rfl rfl hW' hg⟩

theorem inames_holds : Rows.IdsNamesSaid :=
  OpenClaim.holds_of_wide 3 Try.f3 rfl rfl rfl rfl rfl rfl rfl ⟨rfl, rfl, rfl, rfl, rfl⟩ rfl rfl rfl rfl rfl (by kernel_rfl) Try.func3 (by kernel_rfl)
    (of_decide_eq_true (by kernel_rfl)) (by unfold Func.isWrapper; rw [if_neg (of_decide_eq_false (by kernel_rfl))]; exact ⟨rfl, rfl⟩)
    (fun os started H enc _ => inames_lifted os started H enc)
#print axioms inames_holds
end Go.Proofs.Ytpmpngdejikhhaa
