/-
  The limit and the errors have their numbers, and the chapter's examples are so: the statement NumNames.
-/
import Derived.Test.YtddhbcpohedbnaaNumK
namespace Go.Proofs.Ytddhbcpohedbnaa
open Go.ChangeShapes Go.WideShapes Go.ChangeAt Go.RowKit Go.Joins
set_option linter.unusedVariables false

theorem n_a : gN [249, 1, 0, 7] = 256 ∧ gS [249, 1, 0, 7] = 3 ∧ gE [249, 1, 0, 7] = 0 := by
  have h := getP_enc (n := 256) (by omega) [7]
  have e := enc_256.2
  rw [show (256 : Int) = ((256 : Nat) : Int) from rfl, putB_of (by omega)] at e
  rw [e] at h
  exact getP_of h
theorem n_b : gN [254, 255, 255, 255, 255, 255, 255, 255] = 72057594037927935 ∧ gS [254, 255, 255, 255, 255, 255, 255, 255] = 8 ∧ gE [254, 255, 255, 255, 255, 255, 255, 255] = 0 := by
  have h := getP_enc (n := 72057594037927935) (by omega) []
  have e := (enc_of (n := 72057594037927935) (k := 6) (l := [254, 255, 255, 255, 255, 255, 255, 255]) (by omega) (by omega) (by omega) (by omega) (by decide)).2
  rw [putB_of (by omega)] at e
  rw [e] at h
  exact getP_of h
theorem n_c : getP [248, 247] = none := by
  have e : fits 247 2 = false := by simp [fits, enc_length_low (n := 247) (by omega)]
  rw [getP, show told 248 = 2 from rfl, show rv (List.take 2 [248, 247]) = 247 from rfl, e]
  rfl
theorem n_d : getP [249, 0, 255] = none := by
  have e : fits 255 3 = false := by simp [fits, enc_length_high (n := 255) (by omega), bl_eq (n := 255) (k := 0) (by omega) (by omega)]
  rw [getP, show told 249 = 3 from rfl, show rv (List.take 3 [249, 0, 255]) = 255 from rfl, e]
  rfl
theorem n_e : getP [249, 1] = none := rfl
theorem n_f : getP [] = none := rfl
theorem n_g : getP [255, 1, 0, 0, 0, 0, 0, 0, 0] = none := by
  rw [getP, show told 255 = 9 from rfl]
  simp [fits]
theorem n_h : putB (-1) = [] ∧ ([] : List UInt8).length = 0 ∧ putE (-1) = 2 := by decide
theorem n_i : putB 72057594037927936 = [] ∧ ([] : List UInt8).length = 0 ∧ putE 72057594037927936 = 2 := by decide
theorem n_j : sz 72057594037927935 = 8 := by
  have e := (enc_of (n := 72057594037927935) (k := 6) (l := [254, 255, 255, 255, 255, 255, 255, 255]) (by omega) (by omega) (by omega) (by omega) (by decide)).2
  rw [sz, show (72057594037927935 : Int) = ((72057594037927935 : Nat) : Int) from rfl, e]; rfl
theorem n_k : sz (-1) = 0 := by decide

set_option maxHeartbeats 1000000 in
theorem nnames_walk (w : World) :
    Calls Try.prog 3 #[] w fun e w' => e = .returned (.bool true) ∧ Below w.heap.size w w' := by
  have Ha := hid n_a
  have Hb := hid n_b
  have Hc := hid n_c
  have Hd := hid n_d
  have He := hid n_e
  have Hf := hid n_f
  have Hg := hid n_g
  have Hh := hid n_h
  have Hi := hid n_i
  have Hj := hid n_j
  have Hk := hid n_k
  go_enter Try.func3, Try.ntmps3
  go_wp2_with fail
  refine (get_of 256 3 0 _ 4 4 [249, 1, 0, 7] (hid rfl) Ha _ (lit_rd w _ (by simp))).mono ?_
  rintro e w1 ⟨rfl, rfl⟩
  have B := (Below.refl w.heap.size w).alloc (Nat.le_refl _) (.cells (u8s [249, 1, 0, 7]).toArray 5)
  generalize w.alloc (.cells (u8s [249, 1, 0, 7]).toArray 5) = w1 at B ⊢
  go_wp2_with fail
  refine (put_of (-1) [] 0 2 Hh _).mono ?_
  rintro e w2 ⟨A2, c2, rfl, _, b2⟩
  replace B := B.trans (b2.mono B.size)
  clear b2
  go_wp2_with fail
  refine (put_of 72057594037927936 [] 0 2 Hi _).mono ?_
  rintro e w3 ⟨A3, c3, rfl, _, b3⟩
  replace B := B.trans (b3.mono B.size)
  clear b3
  go_wp2_with fail
  refine (get_of 72057594037927935 8 0 _ 8 8 [254, 255, 255, 255, 255, 255, 255, 255] (hid rfl) Hb _ (lit_rd _ _ (by simp))).mono ?_
  rintro e w4 ⟨rfl, rfl⟩
  replace B := B.alloc B.size (.cells (u8s [254, 255, 255, 255, 255, 255, 255, 255]).toArray 5)
  generalize w3.alloc (.cells (u8s [254, 255, 255, 255, 255, 255, 255, 255]).toArray 5) = w4 at B ⊢
  go_wp2_with fail
  refine (alive_any _).mono ?_
  rintro e w5 ⟨rfl, b5⟩
  replace B := B.trans (b5.mono B.size)
  clear b5
  go_wp2_with fail
  refine (bad_yes _ 2 2 [248, 247] (hid rfl) Hc _ (lit_rd _ _ (by simp))).mono ?_
  rintro e w6 ⟨rfl, rfl⟩
  replace B := B.alloc B.size (.cells (u8s [248, 247]).toArray 5)
  generalize World.alloc _ (.cells (u8s [248, 247]).toArray 5) = w6 at B ⊢
  go_wp2_with fail
  refine (bad_yes _ 3 3 [249, 0, 255] (hid rfl) Hd _ (lit_rd _ _ (by simp))).mono ?_
  rintro e w7 ⟨rfl, rfl⟩
  replace B := B.alloc B.size (.cells (u8s [249, 0, 255]).toArray 5)
  generalize World.alloc _ (.cells (u8s [249, 0, 255]).toArray 5) = w7 at B ⊢
  go_wp2_with fail
  refine (bad_yes _ 2 2 [249, 1] (hid rfl) He _ (lit_rd _ _ (by simp))).mono ?_
  rintro e w8 ⟨rfl, rfl⟩
  replace B := B.alloc B.size (.cells (u8s [249, 1]).toArray 5)
  generalize World.alloc _ (.cells (u8s [249, 1]).toArray 5) = w8 at B ⊢
  go_wp2_with fail
  refine (bad_yes none 0 0 [] (hid rfl) Hf _ (Rd.nil _)).mono ?_
  rintro e w9 ⟨rfl, rfl⟩
  go_wp2_with fail
  refine (bad_yes _ 9 9 [255, 1, 0, 0, 0, 0, 0, 0, 0] (hid rfl) Hg _ (lit_rd _ _ (by simp))).mono ?_
  rintro e w10 ⟨rfl, rfl⟩
  replace B := B.alloc B.size (.cells (u8s [255, 1, 0, 0, 0, 0, 0, 0, 0]).toArray 5)
  generalize World.alloc _ (.cells (u8s [255, 1, 0, 0, 0, 0, 0, 0, 0]).toArray 5) = w10 at B ⊢
  go_wp2_with fail
  refine (size_of 72057594037927935 8 Hj _).mono ?_
  rintro e w11 ⟨rfl, rfl⟩
  go_wp2_with fail
  refine (size_of (-1) 0 Hk _).mono ?_
  rintro e w12 ⟨rfl, rfl⟩
  go_wp2
  go_ret
  exact ⟨rfl, B⟩

set_option maxRecDepth 100000 in
theorem nnames_lifted (os : Os) (started : os.Started) (H : Type) (enc : TypeId × Value → H) :
    ReturnsInHanded {} Try.checked os 3 .any (Rows.numNamesSpec.pre6 enc Try.prog Try.f3 Rows.numNamesRow.domain false) (Rows.numNamesSpec.post enc Try.prog Try.f3 false true false false) := by
  refine returnsInHanded_of_change (C := Try.checked) own started (by kernel_rfl) Try.func3
    (ChangeSpec.witness6 (enc := enc) (C := Try.checked) false ⟨#[], #[], []⟩ 8 (by kernel_rfl) (by kernel_rfl) (by kernel_rfl) (by kernel_rfl)) ?_
  intro W base args ds gs before hval0 hW _ _
  have hval : ∀ (j : Nat) t v, Try.f3.params[j]? = some t → args[j]? = some v → Value.okWide Try.prog W .any base t v := hval0
  have hW' := hW
  obtain ⟨p, q, hA0, hV, rfl, _, _⟩ := hW
  have hA : DataW.TrodAll enc Try.prog W 0 (fun _ => true) true Try.f3.params.toList args.toList ds p := hA0
  rw [Try.params3] at hA hval
  obtain ⟨rfl, rfl, rfl⟩ := trodAll_none hA
  obtain ⟨rfl, rfl⟩ := trodVars_none hV
  refine (nnames_walk  W).mono fun e W' ⟨he, hg⟩ => ?_
  subst he
  exact ⟨_, rfl, law_post laidOut (by kernel_rfl) rfl Try.underlying4 rfl rfl hW' hg⟩

theorem nnames_holds : Rows.NumNamesSaid :=
  OpenClaim.holds_of_wide 3 Try.f3 rfl rfl rfl rfl rfl rfl rfl ⟨rfl, rfl, rfl, rfl, rfl⟩ rfl rfl rfl rfl rfl (by kernel_rfl) Try.func3 (by kernel_rfl)
    (of_decide_eq_true (by kernel_rfl)) (by unfold Func.isWrapper; rw [if_neg (of_decide_eq_false (by kernel_rfl))]; exact ⟨rfl, rfl⟩)
    (fun os started H enc _ => nnames_lifted os started H enc)
#print axioms nnames_holds
end Go.Proofs.Ytddhbcpohedbnaa
