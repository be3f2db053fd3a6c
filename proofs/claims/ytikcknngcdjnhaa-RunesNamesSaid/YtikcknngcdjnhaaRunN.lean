/-
  The limits and errors have their numbers, and the chapter's examples are so: the statement RunesNames. Conditions: none.
-/
import Derived.Test.YtikcknngcdjnhaaRunK
namespace Go.Proofs.Ytikcknngcdjnhaa
open Go.ChangeShapes Go.WideShapes Go.ChangeAt Go.RowKit Go.Joins
set_option linter.unusedVariables false

theorem zeros_u8 (n : Nat) : (u8s (List.replicate n 0)).toArray = madeCells #[.int .u8 0] n := by
  apply Array.ext
  · simp [u8s, size_madeCells]
  · intro i h1 h2
    simp [u8s, madeCells, Nat.mod_one]
theorem zeros_i32 (n : Nat) : (i32s (List.replicate n 0)).toArray = madeCells #[.int .i32 0] n := by
  apply Array.ext
  · simp [i32s, size_madeCells]
  · intro i h1 h2
    simp [i32s, madeCells, Nat.mod_one]
theorem zeros_rd (w : World) (n : Nat) (hn : n ≤ 1000) : Rd (w.alloc (.cells (madeCells #[.int .u8 0] n) 5)) (some ⟨w.heap.size, 0, none⟩) n (List.replicate n 0) := by
  have h := lit_rd w (List.replicate n 0) (by simp; omega)
  rw [zeros_u8, List.length_replicate] at h
  exact h
theorem zeros_ri (w : World) (n : Nat) (hn : n ≤ 1000) : Ri (w.alloc (.cells (madeCells #[.int .i32 0] n) 21)) (some ⟨w.heap.size, 0, none⟩) n (List.replicate n 0) := by
  have h := lit_i w 21 (List.replicate n 0) (fun x hx => by rw [List.eq_of_mem_replicate hx]; omega) (by simp; omega)
  rw [zeros_i32, List.length_replicate] at h
  exact h
theorem make_u8 (n : Nat) (hn : n ≤ 1000) (w : World) : (Instr.makeSlice 26 (.int .i64 (n : Int)) (.int .i64 (n : Int))).run Try.prog w = .ok (.slice (some ⟨w.heap.size, 0, none⟩) n n) (w.alloc (.cells (madeCells #[.int .u8 0] n) 5)) :=
  run_make_row' 26 5 (.int .u8 0) 1 Try.underlying26 info_u8 rfl .i64 .i64 n (by omega) (by omega) w
theorem make_i32 (n : Nat) (hn : n ≤ 1000) (w : World) : (Instr.makeSlice 22 (.int .i64 (n : Int)) (.int .i64 (n : Int))).run Try.prog w = .ok (.slice (some ⟨w.heap.size, 0, none⟩) n n) (w.alloc (.cells (madeCells #[.int .i32 0] n) 21)) :=
  run_make_row' 22 21 (.int .i32 0) 4 Try.underlying22 info_i32 rfl .i64 .i64 n (by omega) (by omega) w

set_option maxRecDepth 100000 in
set_option maxHeartbeats 4000000 in
theorem rnames_walk (w : World) :
    Calls Try.prog 3 #[] w fun e w' => e = .returned (.bool true) ∧ Below w.heap.size w w' := by
  have O1 : Hid (ofV [255] = [] ∧ ofE [255] = 3 ∧ ([] : List Int).length = 0) := hid (by decide +kernel)
  have O2 : Hid (ofV (List.replicate 65 0) = [] ∧ ofE (List.replicate 65 0) = 4 ∧ ([] : List Int).length = 0) := hid (by decide +kernel)
  have D1 : Hid (hidV [97, 98] [true, false] = [-1, 98] ∧ hidE [97, 98] [true, false] = 0 ∧ ([-1, 98] : List Int).length = 2) := hid (by decide +kernel)
  have T1 : Hid (textV [-1, 98] [63] = [63, 98] ∧ chk [-1, 98] = 0) := hid (by decide +kernel)
  have P1 : Hid (putV [-2] = [] ∧ chk [-2] = 8 ∧ ([] : List UInt8).length = 0) := hid (by decide +kernel)
  have G1 : Hid (getV [0, 0, 216, 0] = [] ∧ getE [0, 0, 216, 0] = 8 ∧ ([] : List Int).length = 0) := hid (by decide +kernel)
  have G2 : Hid (getV [0, 0, 0] = [] ∧ getE [0, 0, 0] = 8 ∧ ([] : List Int).length = 0) := hid (by decide +kernel)
  have D2 : Hid (hidV [97] [] = [] ∧ hidE [97] [] = 2 ∧ ([] : List Int).length = 0) := hid (by decide +kernel)
  have G3 : Hid (getV (List.replicate 260 0) = [] ∧ getE (List.replicate 260 0) = 4 ∧ ([] : List Int).length = 0) := hid (by decide +kernel)
  have C1 : Hid (chk (List.replicate 65 0) = 4) := hid (by decide +kernel)
  have S1 : Hid (sameI [-1, 98] [-1, 98] = true) := hid (by decide)
  have I1 : In32 [97, 98] := fun x hx => by simp at hx; omega
  have I2 : In32 [-1, 98] := fun x hx => by simp at hx; omega
  have I3 : In32 [-2] := fun x hx => by simp at hx; omega
  have I4 : In32 [97] := fun x hx => by simp at hx; omega
  have L65 : Hid ((List.replicate 65 (0 : UInt8)).length = 65) := hid (by simp)
  have M65 : Hid ((List.replicate 65 (0 : Int)).length = 65) := hid (by simp)
  have L260 : Hid ((List.replicate 260 (0 : UInt8)).length = 260) := hid (by simp)
  have m1 : ∀ w, (Instr.makeSlice 26 (.int .i64 65) (.int .i64 65)).run Try.prog w = _ := make_u8 65 (by omega)
  have m2 : ∀ w, (Instr.makeSlice 26 (.int .i64 260) (.int .i64 260)).run Try.prog w = _ := make_u8 260 (by omega)
  have m3 : ∀ w, (Instr.makeSlice 22 (.int .i64 65) (.int .i64 65)).run Try.prog w = _ := make_i32 65 (by omega)
  have z1 := fun w => zeros_rd w 65 (by omega)
  have z2 := fun w => zeros_rd w 260 (by omega)
  have z3 := fun w => zeros_ri w 65 (by omega)
  generalize madeCells #[.int .u8 0] 65 = Z1 at m1 z1
  generalize madeCells #[.int .u8 0] 260 = Z2 at m2 z2
  generalize madeCells #[.int .i32 0] 65 = Z3 at m3 z3
  generalize List.replicate 65 (0 : UInt8) = l1 at O2 z1 L65
  generalize List.replicate 260 (0 : UInt8) = l2 at G3 z2 L260
  generalize List.replicate 65 (0 : Int) = l3 at C1 z3 M65
  have kc := conv_const
  have Hz1 := hid z1
  have Hz2 := hid z2
  have Hz3 := hid z3
  clear z1 z2 z3
  go_enter Try.func3, Try.ntmps3
  go_wp2_with fail
  refine (of_any _ [255] (hid rfl) (by decide) _).mono ?_
  intro _ w1 h
  obtain ⟨A1, c1, rfl, hr1, b1⟩ := h.at_ O1
  clear h
  have rs := rd_string L65 (Hz1.out w1)
  go_wp2_with fail
  refine (of_any ⟨l1.toArray⟩ l1 (hid rfl) (by have := L65.out; simp [ByteArray.size]; omega) _).mono ?_
  intro _ w2 h
  obtain ⟨A2, c2, rfl, hr2, b2⟩ := h.at_ O2
  replace b1 := (b1.alloc b1.size _).trans (b2.mono (by simp; have := b1.size; omega))
  clear h b2 rs hr1 hr2
  go_wp2_with fail
  have k1 := (lit_i w2 21 [97, 98] I1 (by simp)).alloc (.cells (bls [true, false]).toArray 4)
  have k2 := lit_b (w2.alloc (.cells (i32s [97, 98]).toArray 21)) 4 [true, false] (by simp)
  rw [World.size_alloc] at k2
  refine (hide_any _ 2 2 [97, 98] (hid rfl) _ 2 2 [true, false] (hid rfl) _ k1 k2).mono ?_
  intro _ w3 h
  obtain ⟨A3, c3, rfl, hr3, b3⟩ := h.at_ D1
  replace b1 := ((b1.alloc b1.size _).alloc (by simp; have := b1.size; omega) _).trans (b3.mono (by simp; have := b1.size; omega))
  have hx := hr3.ri
  clear h b3 k1 k2 hr3
  go_wp2_with fail
  refine (text_any _ 2 2 [-1, 98] (hid rfl) _ [63] 1 (hid ⟨rfl, rfl⟩) (by omega) _ (lit_i w3 21 [-1, 98] I2 (by simp))).mono ?_
  intro _ w4 h
  obtain ⟨rfl, b4⟩ := h.at_ T1
  replace b4 := ((Below.refl _ w3).alloc (Nat.le_refl _) _).trans (b4.mono (by simp))
  replace hx := hx.keep b4
  replace b1 := b1.trans (b4.mono b1.size)
  clear h b4
  go_wp2_with fail
  refine (put_any _ 1 1 [-2] (hid rfl) _ (lit_i w4 21 [-2] I3 (by simp))).mono ?_
  intro _ w5 h
  obtain ⟨A5, c5, rfl, hr5, b5⟩ := h.at_ P1
  replace b5 := ((Below.refl _ w4).alloc (Nat.le_refl _) _).trans (b5.mono (by simp))
  replace hx := hx.keep b5
  replace b1 := b1.trans (b5.mono b1.size)
  clear h b5 hr5
  go_wp2_with fail
  refine (get_any _ 4 4 [0, 0, 216, 0] (hid rfl) _ (mark_rd w5 [0, 0, 216, 0] (4, 5) (by simp))).mono ?_
  intro _ w6 h
  obtain ⟨A6, c6, rfl, hr6, b6⟩ := h.at_ G1
  replace b6 := ((Below.refl _ w5).alloc (Nat.le_refl _) _).trans (b6.mono (by simp))
  replace hx := hx.keep b6
  replace b1 := b1.trans (b6.mono b1.size)
  clear h b6 hr6
  go_wp2_with fail
  refine (get_any _ 3 3 [0, 0, 0] (hid rfl) _ (mark_rd w6 [0, 0, 0] (3, 4) (by simp))).mono ?_
  intro _ w7 h
  obtain ⟨A7, c7, rfl, hr7, b7⟩ := h.at_ G2
  replace b7 := ((Below.refl _ w6).alloc (Nat.le_refl _) _).trans (b7.mono (by simp))
  replace hx := hx.keep b7
  replace b1 := b1.trans (b7.mono b1.size)
  clear h b7 hr7
  go_wp2_with fail
  refine (hide_any _ 1 1 [97] (hid rfl) none 0 0 [] (hid rfl) _ (lit_i w7 21 [97] I4 (by simp)) (Rb.nil _)).mono ?_
  intro _ w8 h
  obtain ⟨A8, c8, rfl, hr8, b8⟩ := h.at_ D2
  replace b8 := ((Below.refl _ w7).alloc (Nat.le_refl _) _).trans (b8.mono (by simp))
  replace hx := hx.keep b8
  replace b1 := b1.trans (b8.mono b1.size)
  clear h b8 hr8
  go_wp2_with fail
  refine (get_any _ 260 260 l2 L260 _ (Hz2.out w8)).mono ?_
  intro _ w9 h
  obtain ⟨A9, c9, rfl, hr9, b9⟩ := h.at_ G3
  replace b9 := ((Below.refl _ w8).alloc (Nat.le_refl _) _).trans (b9.mono (by simp))
  replace hx := hx.keep b9
  replace b1 := b1.trans (b9.mono b1.size)
  clear h b9 hr9
  go_wp2_with fail
  refine (alive_any _).mono ?_
  rintro _ w10 ⟨rfl, b10⟩
  replace hx := hx.keep b10
  replace b1 := b1.trans (b10.mono b1.size)
  clear b10
  go_wp2_with fail
  refine (same_of true A3 2 c3 [-1, 98] (hid rfl) _ 2 2 [-1, 98] (hid rfl) S1 _ (hx.alloc _) (lit_i w10 21 [-1, 98] I2 (by simp))).mono ?_
  rintro _ w11 ⟨rfl, b11⟩
  replace b11 := ((Below.refl _ w10).alloc (Nat.le_refl _) _).trans (b11.mono (by simp))
  replace b1 := b1.trans (b11.mono b1.size)
  clear b11
  go_wp2_with fail
  refine (check_of 4 _ 65 65 l3 M65 C1 _ (Hz3.out w11)).mono ?_
  rintro _ w12 ⟨rfl, rfl⟩
  replace b1 := b1.alloc b1.size (.cells Z3 21)
  go_wp2
  go_ret
  exact ⟨rfl, b1⟩

set_option maxRecDepth 100000 in
theorem rnames_lifted (os : Os) (started : os.Started) (H : Type) (enc : TypeId × Value → H) :
    ReturnsInHanded {} Try.checked os 3 .any (Rows.runesNamesSpec.pre6 enc Try.prog Try.f3 Rows.runesNamesRow.domain false) (Rows.runesNamesSpec.post enc Try.prog Try.f3 false true false false) := by
  refine returnsInHanded_of_change (C := Try.checked) own started (by kernel_rfl) Try.func3
    (ChangeSpec.witness6 (enc := enc) (C := Try.checked) false ⟨#[], #[], []⟩ 8 (by kernel_rfl) (by kernel_rfl) (by kernel_rfl) (by kernel_rfl)) ?_
  intro W base args ds gs before hval0 hW _ _
  have hval : ∀ (j : Nat) t v, Try.f3.params[j]? = some t → args[j]? = some v → Value.okWide Try.prog W .any base t v := hval0
  have hW' := hW
  obtain ⟨p, q, hA0, hV, rfl, _, _⟩ := hW
  have hA : DataW.TrodAll enc Try.prog W 0 (fun _ => true) true Try.f3.params.toList args.toList ds p := hA0
  rw [Try.params3] at hA hval
  obtain ⟨rfl, rfl, rfl⟩ := trodAll_none hA
  obtain ⟨rfl, rfl⟩ := trodVars_none hV
  refine (rnames_walk  W).mono fun e W' ⟨he, hg⟩ => ?_
  subst he
  exact ⟨_, rfl, law_post laidOut (by kernel_rfl) rfl Try.underlying4 rfl rfl hW' hg⟩

theorem rnames_holds : Rows.RunesNamesSaid :=
  OpenClaim.holds_of_wide 3 Try.f3 rfl rfl rfl rfl rfl rfl rfl ⟨rfl, rfl, rfl, rfl, rfl⟩ rfl rfl rfl rfl rfl (by kernel_rfl) Try.func3 (by kernel_rfl)
    (of_decide_eq_true (by kernel_rfl)) (by unfold Func.isWrapper; rw [if_neg (of_decide_eq_false (by kernel_rfl))]; exact ⟨rfl, rfl⟩)
    (fun os started H enc _ => rnames_lifted os started H enc)
#print axioms rnames_holds
end Go.Proofs.Ytikcknngcdjnhaa
