/-
  THE STATEMENT MailNames: the kinds, limits and errors have their numbers, and the chapter's examples are so. No condition.
-/
import Derived.Test.YtdhfnacdjjdijaaGreatMlY
import Derived.Test.YtdhfnacdjjdijaaGreatOO
import Derived.Laws.IdiomStrings
namespace Go.Proofs.YtdhfnacdjjdijaaGreat
open Go.ChangeShapes Go.WideShapes Go.ChangeAt Go.RowKit Go.Joins
set_option linter.unusedVariables false
set_option linter.unusedSimpArgs false

/-- A string as bytes. -/
theorem conv_str (w : World) (l : List UInt8) (hl : l.length ≤ 100) : ∃ c W', (convert 9 32 (.string ⟨l.toArray⟩)).run Tryz.prog w = .ok (.slice (some ⟨w.heap.size, 0, none⟩) l.length c) W' ∧ Rd W' (some ⟨w.heap.size, 0, none⟩) c l ∧ Below w.heap.size w W' := by
  have h := run_bytes_of_string (P := Tryz.prog) w 9 32 5 ⟨l.toArray⟩ Tryz.underlying9 Tryz.underlying32 Tryz.underlying5
  have hs : (⟨l.toArray⟩ : ByteArray).size = l.length := by simp [ByteArray.size]
  rw [hs] at h
  refine ⟨_, _, h, ⟨grownCap_ge _ _ _ _, grownCap_le_maxLen _ _ _ _ (by unfold maxLen; omega), fun hp => ⟨w.heap.size, 0, rfl, fun j hj => ?_⟩⟩, ?_⟩
  · rw [Nat.zero_add, cell_alloc_mark_at w.drew _ _ _ w.heap.size j rfl, bytesRow_at _ _ j (by simpa using hj)]
    simp
  · exact ((Below.refl _ _).drew).alloc (Nat.le_refl _) _

set_option maxRecDepth 100000 in
set_option maxHeartbeats 1600000 in
theorem none_of (l : List UInt8) (n : Nat) (hn : Hid (l.length = n)) (hl : n ≤ 100) (hno : Hid (Gom l zM 90)) (w : World) :
    Calls Tryz.prog 10 #[.string ⟨l.toArray⟩] w fun e w' => e = .returned (.bool true) ∧ Below w.heap.size w w' := by
  obtain ⟨c, W1, hrun, hr, hb⟩ := conv_str w l (by rw [hn.out]; exact hl)
  rw [hn.out] at hrun
  go_enter Tryz.func10, Tryz.ntmps10
  go_wp2_with fail
  refine (mget_of _ n c l hn _ hr).mono ?_
  rintro e v1 ⟨p, B1, e1, d1, j1, rfl, hg1, hk1, ho1, a1⟩
  obtain ⟨rfl, rfl⟩ := hg1.one hno.out
  have hc1 := below_in hb a1
  have HK1 := hid hk1
  have tv := thereM_new v1 (#[.int .u8 0, .int .i64 0, .int .i64 0, .int .i64 0, .int .i64 0, .int .i64 0, .int .u8 0, .int .i64 0, .int .i64 0, .int .i64 0, .int .i64 0, .slice none 0 0]) rfl 27
  clear hb a1 hk1 hrun hr hg1
  have one : True := trivial
  have two : True := trivial
  go_wp2_with (first
    | (clear one; refine wpList_store_m rfl (.tmp 3) (.tmp 9) rfl v1.heap.size rfl zM B1 e1 d1 rfl tv v1.heap.size (Nat.le_refl _) ?_; intro v2 bv2 tv2 a2 hh2 sz2; clear hh2 sz2; have b12 : Below v1.heap.size v1 v2 := ((Below.refl _ _).alloc (Nat.le_refl _) _).trans a2)
    | (clear two; refine wpList_load_m rfl (.tmp 3) rfl v1.heap.size rfl bv2 ?_))
  have hc2 := below_in hc1 b12
  have ho2 := ho1.keep b12
  clear tv tv2 a2 bv2 b12 ho1 hc1
  refine (rmsame_of true zM B1 e1 d1 HK1 zM none 0 0 (hid rfl) (hid (sameM_self _)) _ ho2.rd (RdO.nil _)).mono ?_
  rintro e v3 ⟨rfl, a3⟩
  have hc3 := below_in hc2 a3
  clear a3 hc2 ho2
  go_wp2
  go_ret
  exact ⟨rfl, hc3⟩

@[reducible] def mClose : Mld := ⟨5, 0, 0, 0, 0, 0, 0, 0, 0, 0, 0, []⟩
@[reducible] def mTold : Mld := ⟨9, 0, 0, 0, 0, 0, 1, 1, 2, 0, 0, []⟩
@[reducible] def mAns0 : Mld := ⟨7, 0, 0, 0, 0, 0, 0, 0, 0, 0, 0, []⟩
@[reducible] def mSub0 : Mld := ⟨2, 0, 0, 0, 0, 0, 0, 0, 0, 0, 0, []⟩
@[reducible] def mClose1 : Mld := ⟨5, 1, 0, 0, 0, 0, 0, 0, 0, 0, 0, []⟩
@[reducible] def mClosed : Mld := ⟨10, 0, 0, 0, 0, 0, 0, 0, 0, 0, 0, []⟩
theorem close_facts : mlb mClose = [5] ∧ mayM mClose = true ∧ (mlb mClose).length = 1 := by decide +kernel
theorem told_facts : mlb mTold = [9, 1, 0, 0, 1, 0, 0, 2, 0, 0, 0, 0, 0, 0] ∧ mayM mTold = true ∧ (mlb mTold).length = 14 := by decide +kernel
theorem bad_facts : er (mayM mAns0) = 8 ∧ er (mayM mSub0) = 8 ∧ er (mayM mClose1) = 8 ∧ er (mayM zM) = 8 := by decide +kernel
theorem up_facts : (decide (mClose.kd ≤ 5) && mayM mClose) = true ∧ (decide (mClosed.kd ≤ 5) && mayM mClosed) = false := by decide +kernel
theorem none_facts : Gom [] zM 90 ∧ Gom [5, 0] zM 90 ∧ Gom [11] zM 90 :=
  ⟨gom_no (m := rdP []) rfl (by decide +kernel), gom_no (m := rdP [5, 0]) rfl (by decide +kernel), gom_no (m := rdP [11]) rfl (by decide +kernel)⟩

set_option maxRecDepth 100000 in
set_option maxHeartbeats 6400000 in
theorem mnames_walk (w : World) :
    Calls Tryz.prog 3 #[] w fun e w' => e = .returned (.bool true) ∧ Below w.heap.size w w' := by
  have F1 := hid close_facts
  have F2 := hid told_facts
  have F3 := hid bad_facts
  have F4 := hid up_facts
  have F5 := hid none_facts
  go_enter Tryz.func3, Tryz.ntmps3
  go_wp2_with fail
  refine (is_lit [5] 1 mClose rfl (flat_r _ _ _ _ _ _ _ _ _ _ _ (by decide)) F1.out _).mono ?_
  rintro e w1 ⟨rfl, b1⟩
  go_wp2_with fail
  refine (is_lit [9, 1, 0, 0, 1, 0, 0, 2, 0, 0, 0, 0, 0, 0] 14 mTold rfl (flat_r _ _ _ _ _ _ _ _ _ _ _ (by decide)) F2.out _).mono ?_
  rintro e w2 ⟨rfl, b2⟩
  have hb2 := below_in b1 b2
  clear b1 b2
  go_wp2_with fail
  refine (mcheck_of 8 mAns0 none 0 0 (hid rfl) (hid F3.out.1) _ (RdO.nil _)).mono ?_
  rintro e w3 ⟨rfl, b3⟩
  have hb3 := below_in hb2 b3
  clear hb2 b3
  go_wp2_with fail
  refine (mcheck_of 8 mSub0 none 0 0 (hid rfl) (hid F3.out.2.1) _ (RdO.nil _)).mono ?_
  rintro e w4 ⟨rfl, b4⟩
  have hb4 := below_in hb3 b4
  clear hb3 b4
  go_wp2_with fail
  refine (mcheck_of 8 mClose1 none 0 0 (hid rfl) (hid F3.out.2.2.1) _ (RdO.nil _)).mono ?_
  rintro e w5 ⟨rfl, b5⟩
  have hb5 := below_in hb4 b5
  clear hb4 b5
  go_wp2_with fail
  refine (mcheck_of 8 zM none 0 0 (hid rfl) (hid F3.out.2.2.2) _ (RdO.nil _)).mono ?_
  rintro e w6 ⟨rfl, b6⟩
  have hb6 := below_in hb5 b6
  clear hb5 b6
  go_wp2_with fail
  refine (alive_any _).mono ?_
  rintro e w7 ⟨rfl, b7⟩
  have hb7 := below_in hb6 b7
  clear hb6 b7
  go_wp2_with fail
  refine (none_of [] 0 (hid rfl) (by omega) (hid F5.out.1) _).mono ?_
  rintro e w8 ⟨rfl, b8⟩
  have hb8 := below_in hb7 b8
  clear hb7 b8
  go_wp2_with fail
  refine (none_of [5, 0] 2 (hid rfl) (by omega) (hid F5.out.2.1) _).mono ?_
  rintro e w9 ⟨rfl, b9⟩
  have hb9 := below_in hb8 b9
  clear hb8 b9
  go_wp2_with fail
  refine (none_of [11] 1 (hid rfl) (by omega) (hid F5.out.2.2) _).mono ?_
  rintro e w10 ⟨rfl, b10⟩
  have hb10 := below_in hb9 b10
  clear hb9 b10
  go_wp2_with fail
  refine (mup_of true mClose none 0 0 (hid rfl) (hid F4.out.1) _ (RdO.nil _)).mono ?_
  rintro e w11 ⟨rfl, b11⟩
  have hb11 := below_in hb10 b11
  clear hb10 b11
  go_wp2_with fail
  refine (mup_of false mClosed none 0 0 (hid rfl) (hid F4.out.2) _ (RdO.nil _)).mono ?_
  rintro e w12 ⟨rfl, b12⟩
  have hb12 := below_in hb11 b12
  clear hb11 b12
  go_wp2
  go_ret
  exact ⟨rfl, hb12⟩

set_option maxRecDepth 100000 in
theorem mnames_lifted (os : Os) (started : os.Started) (H : Type) (enc : TypeId × Value → H) :
    ReturnsInHanded {} Tryz.checked os 3 .any (Rows.mailNamesSpec.pre6 enc Tryz.prog Tryz.f3 Rows.mailNamesRow.domain false) (Rows.mailNamesSpec.post enc Tryz.prog Tryz.f3 false true false false) := by
  refine returnsInHanded_of_change (C := Tryz.checked) own started (by kernel_rfl) Tryz.func3
    (ChangeSpec.witness6 (enc := enc) (C := Tryz.checked) false ⟨#[], #[], []⟩ 8 (by kernel_rfl) (by kernel_rfl) (by kernel_rfl) (by kernel_rfl)) ?_
  intro W base args ds gs before hval0 hW _ _
  have hval : ∀ (j : Nat) t v, Tryz.f3.params[j]? = some t → args[j]? = some v → Value.okWide Tryz.prog W .any base t v := hval0
  have hW' := hW
  obtain ⟨p, q, hA0, hV, rfl, _, _⟩ := hW
  have hA : DataW.TrodAll enc Tryz.prog W 0 (fun _ => true) true Tryz.f3.params.toList args.toList ds p := hA0
  rw [Tryz.params3] at hA hval
  obtain ⟨rfl, rfl, rfl⟩ := trodAll_none hA
  obtain ⟨rfl, rfl⟩ := trodVars_none hV
  refine (mnames_walk  W).mono fun e W' ⟨he, hg⟩ => ?_
  subst he
  exact ⟨_, rfl, law_post laidOut (by kernel_rfl) rfl Tryz.underlying4 rfl rfl hW' hg⟩

theorem mnames_holds : Rows.MailNamesSaid :=
  OpenClaim.holds_of_wide 3 Tryz.f3 rfl rfl rfl rfl rfl rfl rfl ⟨rfl, rfl, rfl, rfl, rfl⟩ rfl rfl rfl rfl rfl (by kernel_rfl) Tryz.func3 (by kernel_rfl)
    (of_decide_eq_true (by kernel_rfl)) (by unfold Func.isWrapper; rw [if_neg (of_decide_eq_false (by kernel_rfl))]; exact ⟨rfl, rfl⟩)
    (fun os started H enc _ => mnames_lifted os started H enc)
#print axioms mnames_holds
end Go.Proofs.YtdhfnacdjjdijaaGreat
