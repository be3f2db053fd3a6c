/-
  DiskNames: the limits and errors have their numbers, and the chapter's examples are so: for every call. (No conditions.)
-/
import Derived.Test.YtofnjdkfhboapaaDlB
import Derived.Test.YtofnjdkfhboapaaDkO
namespace Go.Proofs.Ytofnjdkfhboapaa
open Go.ChangeShapes Go.WideShapes Go.ChangeAt Go.RowKit Go.Joins Go.Deep
set_option linter.unusedVariables false
set_option linter.unusedSimpArgs false

theorem n_s0 : startE ⟨[], 1, 0, true⟩ (-1) = 0 ∧ startV ⟨[], 1, 0, true⟩ (-1) = ⟨[], 2, -1, false⟩ := by
  obtain ⟨h1, h2⟩ := start_ok (d := ⟨[], 1, 0, true⟩) (may_nil (by omega) (by omega) (by omega) (by omega) (by simp)) (a := -1) ⟨by omega, by omega⟩ (by simp)
  exact ⟨h1, by rw [h2]; simp [startedK]⟩
theorem n_f : writeE zN 6146 (fullB 0) = 2 ∧ writeV zN 6146 (fullB 0) = zK := write_arg zN_may (by omega)
theorem n_g : readE zN (-1) = 2 ∧ readV zN (-1) = [] := read_arg zN_may (by omega)
theorem n_h : startE zN (-2) = 2 ∧ startV zN (-2) = zK := start_arg zN_may (by omega)
theorem n_i : startE ⟨[], 2147483647, 0, false⟩ 0 = 9 ∧ startV ⟨[], 2147483647, 0, false⟩ 0 = zK :=
  start_full (d := ⟨[], 2147483647, 0, false⟩) (may_nil (by omega) (by omega) (by omega) (by omega) (by simp)) ⟨by omega, by omega⟩ rfl
theorem n_j : writeE zN 0 [] = 2 ∧ writeV zN 0 [] = zK := write_arg zN_may (by simp)
theorem n_k : (if mayD ⟨[], 0, 1, true⟩ = true then (0 : Int) else 8) = 8 := by
  rw [if_neg]
  simp [mayD, tailD]
theorem n_l : (if mayD ⟨[], 0, -2, false⟩ = true then (0 : Int) else 8) = 8 := by
  rw [if_neg]
  simp [mayD, tailD]

set_option maxRecDepth 100000 in
set_option maxHeartbeats 1600000 in
theorem dnames_walk (W : World) : Calls Try.prog 3 #[] W fun e W' => e = .returned (.bool true) ∧ Below W.heap.size W W' := by
  go_enter Try.func3, Try.ntmps3
  go_wp2_with fail
  refine (dstart_of ⟨[], 1, 0, true⟩ none 0 0 (-1) ⟨[], 2, -1, false⟩ 0 (hid rfl) (by omega) (hid n_s0.2) (hid n_s0.1) _ (RdS.nil _)).mono ?_
  rintro e w1 ⟨A1, c1, rfl, -, b1⟩
  have hb1 := b1
  go_wp2_with fail
  have bs := bk_new w1 ⟨[], 2, -1, false⟩ A1 0 c1 24
  generalize hX2 : World.alloc w1 _ = w2 at bs ⊢
  have b2 : Below w1.heap.size w1 w2 := by rw [← hX2]; exact below1 _ _
  have hb2 := below_in hb1 b2
  clear hX2
  refine (dnew_any _).mono ?_
  rintro e w3 ⟨rfl, b3⟩
  have hb3 := below_in hb2 b3
  replace bs := bs.keep b3
  go_wp2_with fail
  refine (full_of 0 0 (hid (by decide)) _).mono ?_
  rintro e w4 ⟨g4, rfl, ho4, b4⟩
  have hb4 := below_in hb3 b4
  replace bs := bs.keep b4
  go_wp2_with fail
  refine (dwrite_of zN none 0 0 6146 (some ⟨g4, 0, none⟩) 128 128 (fullB 0) zK 2 (hid rfl) (by omega) (hid (fullB_len _)) (hid n_f.2) (hid n_f.1) _ (RdS.nil _) ho4.rd).mono ?_
  rintro e w5 ⟨A5, c5, rfl, -, b5⟩
  have hb5 := below_in hb4 b5
  replace bs := bs.keep b5
  go_wp2_with fail
  generalize hX6 : World.alloc w5 _ = w6
  have b6 : Below w5.heap.size w5 w6 := by subst hX6; exact below1 _ _
  have hb6 := below_in hb5 b6
  replace bs := bs.keep b6
  clear hX6
  refine (dnew_any _).mono ?_
  rintro e w7 ⟨rfl, b7⟩
  have hb7 := below_in hb6 b7
  replace bs := bs.keep b7
  go_wp2_with fail
  refine (dread_of zN none 0 0 (-1) [] 0 2 (hid rfl) (by omega) (hid n_g.2) (hid rfl) (hid n_g.1) _ (RdS.nil _)).mono ?_
  rintro e w8 ⟨A8, c8, rfl, -, b8⟩
  have hb8 := below_in hb7 b8
  replace bs := bs.keep b8
  go_wp2_with fail
  refine (dnew_any _).mono ?_
  rintro e w9 ⟨rfl, b9⟩
  have hb9 := below_in hb8 b9
  replace bs := bs.keep b9
  go_wp2_with fail
  refine (dstart_of zN none 0 0 (-2) zK 2 (hid rfl) (by omega) (hid n_h.2) (hid n_h.1) _ (RdS.nil _)).mono ?_
  rintro e w10 ⟨A10, c10, rfl, -, b10⟩
  have hb10 := below_in hb9 b10
  replace bs := bs.keep b10
  go_wp2_with fail
  generalize hX11 : World.alloc w10 _ = w11
  have b11 : Below w10.heap.size w10 w11 := by subst hX11; exact below1 _ _
  have hb11 := below_in hb10 b11
  replace bs := bs.keep b11
  clear hX11
  refine (dstart_of ⟨[], 2147483647, 0, false⟩ none 0 0 0 zK 9 (hid rfl) (by omega) (hid n_i.2) (hid n_i.1) _ (RdS.nil _)).mono ?_
  rintro e w12 ⟨A12, c12, rfl, -, b12⟩
  have hb12 := below_in hb11 b12
  replace bs := bs.keep b12
  go_wp2_with fail
  generalize hX13 : World.alloc w12 _ = w13
  have b13 : Below w12.heap.size w12 w13 := by subst hX13; exact below1 _ _
  have hb13 := below_in hb12 b13
  replace bs := bs.keep b13
  clear hX13
  refine (dnew_any _).mono ?_
  rintro e w14 ⟨rfl, b14⟩
  have hb14 := below_in hb13 b14
  replace bs := bs.keep b14
  go_wp2_with fail
  refine (dwrite_of zN none 0 0 0 none 0 0 [] zK 2 (hid rfl) (by omega) (hid rfl) (hid n_j.2) (hid n_j.1) _ (RdS.nil _) (Rd.nil _)).mono ?_
  rintro e w15 ⟨A15, c15, rfl, -, b15⟩
  have hb15 := below_in hb14 b15
  replace bs := bs.keep b15
  go_wp2_with fail
  generalize hX16 : World.alloc w15 _ = w16
  have b16 : Below w15.heap.size w15 w16 := by subst hX16; exact below1 _ _
  have hb16 := below_in hb15 b16
  replace bs := bs.keep b16
  clear hX16
  refine (alive_any _).mono ?_
  rintro e w17 ⟨rfl, b17⟩
  have hb17 := below_in hb16 b17
  replace bs := bs.keep b17
  have x1 : w17.cell? ⟨w1.heap.size, 1, none⟩ = some (.int .i64 2) := bs.bx.s
  have x2 : w17.cell? ⟨w1.heap.size, 2, none⟩ = some (.int .i64 (-1)) := bs.bx.l
  have x3 : w17.cell? ⟨w1.heap.size, 3, none⟩ = some (.bool false) := bs.bx.d
  clear bs
  go_wp2_with fail
  refine (dcheck_of ⟨[], 0, 1, true⟩ none 0 0 (hid rfl) 8 (hid n_k) _ (RdS.nil _)).mono ?_
  rintro e w18 ⟨rfl, b18⟩
  have hb18 := below_in hb17 b18
  go_wp2_with fail
  refine (dcheck_of ⟨[], 0, -2, false⟩ none 0 0 (hid rfl) 8 (hid n_l) _ (RdS.nil _)).mono ?_
  rintro e w19 ⟨rfl, b19⟩
  have hb19 := below_in hb18 b19
  go_wp2
  go_ret
  exact ⟨rfl, hb19⟩


set_option maxRecDepth 100000 in
theorem dnames_lifted (os : Os) (started : os.Started) (H : Type) (enc : TypeId × Value → H) :
    ReturnsInHanded {} Try.checked os 3 .any (Rows.diskNamesSpec.pre6 enc Try.prog Try.f3 Rows.diskNamesRow.domain false) (Rows.diskNamesSpec.post enc Try.prog Try.f3 false true false false) := by
  refine returnsInHanded_of_change (C := Try.checked) own started (by kernel_rfl) Try.func3
    (ChangeSpec.witness6 (enc := enc) (C := Try.checked) false ⟨#[], #[], []⟩ 8 (by kernel_rfl) (by kernel_rfl) (by kernel_rfl) (by kernel_rfl)) ?_
  intro W base args ds gs before hval0 hW _ _
  have hval : ∀ (j : Nat) t v, Try.f3.params[j]? = some t → args[j]? = some v → Value.okWide Try.prog W .any base t v := hval0
  have hW' := hW
  obtain ⟨p, q, hA0, hV, rfl, _, _⟩ := hW
  have hA : DataW.TrodAll enc Try.prog W 0 (fun _ => true) true Try.f3.params.toList args.toList ds p := hA0
  rw [Try.params3] at hA hval
  obtain ⟨rfl, rfl, rfl⟩ := trodAll_none hA
  obtain ⟨rfl, rfl⟩ := trodVars_none hV
  refine (dnames_walk  W).mono fun e W' ⟨he, hg⟩ => ?_
  subst he
  exact ⟨_, rfl, law_post laidOut (by kernel_rfl) rfl Try.underlying4 rfl rfl hW' hg⟩

theorem dnames_holds : Rows.DiskNamesSaid :=
  OpenClaim.holds_of_wide 3 Try.f3 rfl rfl rfl rfl rfl rfl rfl ⟨rfl, rfl, rfl, rfl, rfl⟩ rfl rfl rfl rfl rfl (by kernel_rfl) Try.func3 (by kernel_rfl)
    (of_decide_eq_true (by kernel_rfl)) (by unfold Func.isWrapper; rw [if_neg (of_decide_eq_false (by kernel_rfl))]; exact ⟨rfl, rfl⟩)
    (fun os started H enc _ => dnames_lifted os started H enc)
#print axioms dnames_holds
end Go.Proofs.Ytofnjdkfhboapaa
