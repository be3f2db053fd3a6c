/-
  The limit and the errors have their numbers, and the chapter's examples are so: the statement FrameNames. Conditions: none. The variable 'classes' is as the program's text lays it (the card's tie).
-/
import Derived.Test.YthnjonabofabkaaDoorFrU
namespace Go.Proofs.YthnjonabofabkaaDoor
open Go.ChangeShapes Go.WideShapes Go.ChangeAt Go.RowKit Go.Joins
set_option linter.unusedVariables false

theorem made_zeros (n : Nat) : madeCells #[Value.int .u8 0] n = (u8s (List.replicate n 0)).toArray := by
  apply Array.ext
  · simp [size_madeCells, u8s]
  · intro i h1 h2
    have h3 : i % 1 = 0 := Nat.mod_one i
    simp [madeCells, u8s, h3]
theorem zeros_rd (w : World) (n : Nat) (hn : n ≤ 2000) : Rd (w.alloc (.cells (madeCells #[.int .u8 0] n) 5)) (some ⟨w.heap.size, 0, none⟩) n (List.replicate n 0) := by
  rw [made_zeros]
  refine ⟨by simp, by unfold maxLen; omega, fun hp => ⟨w.heap.size, 0, rfl, fun j hj => ?_⟩⟩
  rw [List.length_replicate] at hj
  simp [go_sem, u8s, hj]
theorem make_n (n : Nat) (hn : n ≤ 2000) (w : World) : (Instr.makeSlice 23 (.int .i64 (n : Int)) (.int .i64 (n : Int))).run Tryd.prog w = .ok (.slice (some ⟨w.heap.size, 0, none⟩) n n) (w.alloc (.cells (madeCells #[.int .u8 0] n) 5)) := by
  obtain ⟨i, hi, hz, hs, hb⟩ := info_parts info_u8
  have h := run_make (P := Tryd.prog) w 23 5 i _ Tryd.underlying23 hi hz .i64 .i64 n n (by omega) (Int.le_refl _) (by rw [hb]; omega) (by omega)
  rw [hs, Int.toNat_natCast, Nat.mul_one] at h
  exact h
theorem cl_0 : cl 0 = 64 := by
  have e := enc_length_low (n := 0) (by omega)
  rw [cl, e]; rfl
theorem cl_59 : cl 59 = 64 := by
  have e := enc_length_low (n := 59) (by omega)
  rw [cl, e]; rfl
theorem cl_60 : cl 60 = 256 := by
  have e := enc_length_low (n := 60) (by omega)
  rw [cl, e]; rfl
theorem cl_1000 : cl 1000 = 1024 := by
  have h := cl_room (n := 1000) (by omega)
  rcases cl_cases 1000 with e | e | e
  · omega
  · omega
  · exact e
theorem class_h (n : Nat) (v : Nat) (hn : n ≤ 1000) (h : cl n = v) : clV (n : Int) = (v : Int) ∧ clE (n : Int) = 0 := by rw [← h]; exact cl_yes hn

set_option maxRecDepth 100000 in
set_option maxHeartbeats 4000000 in
theorem fnames_walk (w : World) (ht : Tab w) :
    Calls Tryd.prog 3 #[] w fun e w' => e = .returned (.bool true) ∧ Below w.heap.size w w' := by
  have H1 := hid ab_seal
  have H3 := hid ab_seal.2.1
  have HP : Hid ((opP ((fr [97, 98]).take 63)).isNone = true) := hid (by rw [opP_part (by simp) (by rw [show ([97, 98] : List UInt8).length = 2 from rfl, ab_len]; omega)]; rfl)
  have HPL : Hid (((fr [97, 98]).take 63).length = 63) := hid (by rw [List.length_take, ab_seal.2.1]; rfl)
  have HN : Hid ((opP []).isNone = true) := hid rfl
  generalize fr [97, 98] = F at H1 H3 HP HPL
  have C0 : Hid (clV 0 = 64 ∧ clE 0 = 0) := hid (class_h 0 64 (by omega) cl_0)
  have C1 : Hid (clV 59 = 64 ∧ clE 59 = 0) := hid (class_h 59 64 (by omega) cl_59)
  have C2 : Hid (clV 60 = 256 ∧ clE 60 = 0) := hid (class_h 60 256 (by omega) cl_60)
  have C3 : Hid (clV 1000 = 1024 ∧ clE 1000 = 0) := hid (class_h 1000 1024 (by omega) cl_1000)
  have C4 : Hid (clV (-1) = 0 ∧ clE (-1) = 4) := hid (cl_not (by omega))
  have L1 : (List.replicate 1001 (0 : UInt8)).length = 1001 := List.length_replicate ..
  have L2 : (List.replicate 1000 (0 : UInt8)).length = 1000 := List.length_replicate ..
  have m1 : ∀ w, (Instr.makeSlice 23 (.int .i64 1001) (.int .i64 1001)).run Tryd.prog w = .ok (.slice (some ⟨w.heap.size, 0, none⟩) 1001 1001) (w.alloc (.cells (madeCells #[.int .u8 0] 1001) 5)) := make_n 1001 (by omega)
  have m2 : ∀ w, (Instr.makeSlice 23 (.int .i64 1000) (.int .i64 1000)).run Tryd.prog w = .ok (.slice (some ⟨w.heap.size, 0, none⟩) 1000 1000) (w.alloc (.cells (madeCells #[.int .u8 0] 1000) 5)) := make_n 1000 (by omega)
  have z1 := fun w => zeros_rd w 1001 (by omega)
  have z2 := fun w => zeros_rd w 1000 (by omega)
  generalize madeCells #[.int .u8 0] 1001 = Z1 at m1 z1
  generalize madeCells #[.int .u8 0] 1000 = Z2 at m2 z2
  generalize List.replicate 1001 (0 : UInt8) = l1 at z1 L1
  generalize List.replicate 1000 (0 : UInt8) = l2 at z2 L2
  have S1 : Hid (seB l1 = [] ∧ ([] : List UInt8).length = 0 ∧ seE l1 = 4) := hid (se_no (by rw [L1]; omega))
  have S2 : Hid (seB l2 = fr l2 ∧ (fr l2).length = 1024 ∧ seE l2 = 0) := hid (by have e := se_yes (l := l2) (by rw [L2]; omega); rw [L2, cl_1000] at e; exact e)
  generalize fr l2 = F2 at S2
  have Hz1 := hid z1
  have Hz2 := hid z2
  have HL1 := hid L1
  have HL2 := hid L2
  have kc := conv_const
  clear z1 z2 L1 L2
  go_enter Tryd.func3, Tryd.ntmps3
  go_wp2_with fail
  refine (alive_any _ ht).mono ?_
  rintro e w1 ⟨rfl, hb⟩
  have hl := mark_rd w1 [97, 98] (2, 3) (by simp)
  go_wp2_with fail
  have b0 := hb.alloc hb.size (.cells (u8s [97, 98]).toArray 5 (2, 3))
  refine (seal_of F 64 0 _ 2 2 [97, 98] (hid rfl) H1 _ hl (ht.keep b0)).mono ?_
  rintro e w2 ⟨A2, c2, rfl, hown2, b2⟩
  replace hb := below_in b0 b2
  clear hl b0 b2
  have r2 := hown2.rd
  clear hown2
  go_wp2_with fail
  have b0 := hb.alloc hb.size (.cells Z1 5)
  refine (seal_of [] 0 4 _ 1001 1001 l1 HL1 S1 _ (Hz1.out w2) (ht.keep b0)).mono ?_
  rintro e w3 ⟨A3, c3, rfl, hown3, b3⟩
  replace r2 := r2.keep ((Below.refl w2.heap.size w2).alloc (Nat.le_refl _) (.cells Z1 5))
  replace r2 := r2.keep b3
  replace hb := below_in b0 b3
  clear hown3 b0 b3
  go_wp2_with fail
  have b0 := hb.alloc hb.size (.cells Z2 5)
  refine (seal_of F2 1024 0 _ 1000 1000 l2 HL2 S2 _ (Hz2.out w3) (ht.keep b0)).mono ?_
  rintro e w4 ⟨A4, c4, rfl, hown4, b4⟩
  replace r2 := r2.keep ((Below.refl w3.heap.size w3).alloc (Nat.le_refl _) (.cells Z2 5))
  replace r2 := r2.keep b4
  replace hb := below_in b0 b4
  clear hown4 b0 b4 Hz1 Hz2 m1 m2 kc
  replace ht := ht.keep hb
  have hc1 : 64 ≤ c2 := by have := r2.len; rw [H3.out] at this; exact this
  have hc2 : c2 ≤ 9223372036854775807 := r2.cap
  go_wp2_with fail
  refine (class_of (-1) 0 4 C4 _ ht).mono ?_
  rintro e w5 ⟨rfl, rfl⟩
  go_wp2_with fail
  refine (class_yes 0 64 C0 _ ht).mono ?_
  rintro e w5 ⟨rfl, rfl⟩
  go_wp2_with fail
  refine (class_yes 59 64 C1 _ ht).mono ?_
  rintro e w5 ⟨rfl, rfl⟩
  go_wp2_with fail
  refine (class_yes 60 256 C2 _ ht).mono ?_
  rintro e w5 ⟨rfl, rfl⟩
  go_wp2_with fail
  refine (class_yes 1000 1024 C3 _ ht).mono ?_
  rintro e w5 ⟨rfl, rfl⟩
  go_wp2_with fail
  refine (none_of true none 0 0 [] (hid rfl) HN _ (Rd.nil _) ht).mono ?_
  rintro e w6 ⟨rfl, b6⟩
  go_wp2_with fail
  refine (none_of true A2 63 c2 (F.take 63) HPL HP _ ((r2.keep b6).take 63) (ht.keep b6)).mono ?_
  rintro e w7 ⟨rfl, b7⟩
  go_wp2
  go_ret
  exact ⟨rfl, below_in (below_in hb b6) b7⟩


set_option maxRecDepth 100000 in
theorem fnames_lifted (os : Os) (started : os.Started) (H : Type) (enc : TypeId × Value → H) :
    ReturnsInHanded {} Tryd.checked os 3 .any (fun w args => (Rows.frameNamesSpec.pre enc Tryd.prog Tryd.f3 [] false w args ∧ laidMetH Tryd.prog laidV w) ∧ sizedMet enc Tryd.prog Tryd.f3 (OpenSpec.ofChange Rows.frameNamesSpec) false w args) (Rows.frameNamesSpec.post enc Tryd.prog Tryd.f3 false true false false) := by
  refine returnsInHanded_of_change_and (C := Tryd.checked) (X := fun w _ => laidMetH Tryd.prog laidV w) (fun _ _ _ hh h => h.of_heap hh) own started (by kernel_rfl) Tryd.func3
    (ChangeSpec.witness_shaped (enc := enc) (C := Tryd.checked) (os := os) (X := fun w _ => laidMetH Tryd.prog laidV w) false (World.doorLaid Tryd.prog 400 os) #[] 8 rfl (World.shaped_of_RefB (by kernel_rfl) (by kernel_rfl)) (by kernel_rfl) (by kernel_rfl) (by kernel_rfl) (door_met os _)) ?_
  intro W base args ds gs before hval0 hW _ _ hL _
  have hval : ∀ (j : Nat) t v, Tryd.f3.params[j]? = some t → args[j]? = some v → Value.okWide Tryd.prog W .any base t v := hval0
  have hW' := hW
  obtain ⟨p, q, hA0, hV, rfl, _, _⟩ := hW
  have hA : DataW.TrodAll enc Tryd.prog W 0 (fun _ => true) true Tryd.f3.params.toList args.toList ds p := hA0
  rw [Tryd.params3] at hA hval
  obtain ⟨rfl, rfl, rfl⟩ := trodAll_none hA
  obtain ⟨rfl, rfl⟩ := trodVars_none hV
  refine (fnames_walk  W (tab_of hL)).mono fun e W' ⟨he, hg⟩ => ?_
  subst he
  exact ⟨_, rfl, law_post laidOut (by kernel_rfl) rfl Tryd.underlying4 rfl rfl hW' hg⟩

theorem fnames_holds : Rows.FrameNamesSaid :=
  OpenClaim.holds_of_wide 3 Tryd.f3 rfl rfl rfl rfl rfl rfl rfl ⟨rfl, rfl, rfl, rfl, rfl⟩ rfl rfl rfl rfl rfl (by kernel_rfl) Tryd.func3 (by kernel_rfl)
    (of_decide_eq_true (by kernel_rfl)) (by unfold Func.isWrapper; rw [if_neg (of_decide_eq_false (by kernel_rfl))]; exact ⟨rfl, rfl⟩)
    (fun os started H enc _ => fnames_lifted os started H enc)

theorem fnames_card : Rows.FrameNamesCardSaid :=
  Claim7.holds_tied_plain_at .later [] [.data] true Rows.frameNamesCard.stood.harness Rows.frameNamesCard.stood.looks
    fnames_holds (fun _ h => by cases h) (by kernel_rfl) (fun _ h => by cases h) frameNames_row_tie rfl ⟨rfl, rfl⟩ (by kernel_rfl) rfl
    (fun f fn hf hfn => by
      obtain rfl : f = 3 := Option.some.inj ((show Tryd.prog.funcNamed "blindstamp/blindstamplaw08.FrameNames" = some 3 by kernel_rfl).symm.trans hf) |>.symm
      obtain rfl : fn = Tryd.f3 := (Option.some.inj (Tryd.func3.symm.trans hfn)).symm
      exact ⟨by kernel_rfl, fun j t ht => by
        have hall : (Tryd.f3.params.toList.all fun u => !Tryd.prog.wantsStandIn u) = true := by kernel_rfl
        exact (show Tryd.prog.wantsStandIn t = false by simpa using List.all_eq_true.1 hall t (Array.mem_toList_iff.2 (Array.mem_of_getElem? ht)))⟩)
    (by kernel_rfl)
#print axioms fnames_card
end Go.Proofs.YthnjonabofabkaaDoor
