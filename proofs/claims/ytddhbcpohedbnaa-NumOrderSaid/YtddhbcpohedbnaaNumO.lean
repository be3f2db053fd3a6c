/-
  Bytes are in the order of numbers, and no beginning of a number's bytes is one: the statement NumOrder, for every two numbers and every byte.
-/
import Derived.Test.YtddhbcpohedbnaaNumK
namespace Go.Proofs.Ytddhbcpohedbnaa
open Go.ChangeShapes Go.WideShapes Go.ChangeAt Go.RowKit Go.Joins
set_option linter.unusedVariables false

set_option maxHeartbeats 1000000 in
theorem norder_walk (n m k : Int) (hn : -9223372036854775808 ≤ n ∧ n < 9223372036854775808) (hm : -9223372036854775808 ≤ m ∧ m < 9223372036854775808) (hk : 0 ≤ k ∧ k ≤ 255) (w : World) :
    Calls Try.prog 6 #[.int .i64 n, .int .i64 m, .int .u8 k] w fun e w' => e = .returned (.bool true) ∧ Below w.heap.size w w' := by
  clear hn hm
  obtain ⟨j, rfl⟩ : ∃ j : Nat, k = (j : Int) := ⟨k.toNat, by omega⟩
  obtain ⟨hk0, hk1⟩ := hk
  cases h1 : may n
  · have H1 := hid (put_no h1)
    clear h1
    obtain ⟨l2, k2, q2, h2⟩ : ∃ l k q, putB m = l ∧ l.length = k ∧ putE m = q := ⟨_, _, _, rfl, rfl, rfl⟩
    have H2 := hid h2
    clear h2
    go_enter Try.func6, Try.ntmps6
    go_wp2_with fail
    refine (alive_any _).mono ?_
    rintro e w1 ⟨rfl, b1⟩
    go_wp2_with fail
    refine (put_of n [] 0 2 H1 _).mono ?_
    rintro e w2 ⟨A2, c2, rfl, _, b2⟩
    replace b1 := b1.trans (b2.mono b1.size)
    clear b2
    go_wp2_with fail
    refine (put_of m _ _ _ H2 _).mono ?_
    rintro e w3 ⟨A3, c3, rfl, _, b3⟩
    replace b1 := b1.trans (b3.mono b1.size)
    clear b3
    go_wp2
    go_ret
    exact ⟨rfl, b1⟩
  · obtain ⟨n1, rfl, hn1, -⟩ := may_nat h1
    clear h1
    obtain ⟨l1, k1, e1, h1⟩ := put_yes hn1
    have H1 := hid h1
    cases h2 : may m
    · have H2 := hid (put_no h2)
      clear h2 hn1 h1 e1
      go_enter Try.func6, Try.ntmps6
      go_wp2_with fail
      refine (alive_any _).mono ?_
      rintro e w1 ⟨rfl, b1⟩
      go_wp2_with fail
      refine (put_of n1 _ _ 0 H1 _).mono ?_
      rintro e w2 ⟨A2, c2, rfl, _, b2⟩
      replace b1 := b1.trans (b2.mono b1.size)
      clear b2
      go_wp2_with fail
      refine (put_of m [] 0 2 H2 _).mono ?_
      rintro e w3 ⟨A3, c3, rfl, _, b3⟩
      replace b1 := b1.trans (b3.mono b1.size)
      clear b3
      go_wp2
      go_ret
      exact ⟨rfl, b1⟩
    · obtain ⟨m1, rfl, hm1, -⟩ := may_nat h2
      clear h2
      obtain ⟨l2, k2, e2, h2⟩ := put_yes hm1
      have H2 := hid h2
      have HS := hid (show sz (n1 : Int) = (k1 : Int) by rw [sz, putB_of hn1, e1, h1.2.1])
      have HL := less_iff hn1 hm1
      have HP := hid (fun hj : j < (enc n1).length => getP_part hn1 hj)
      rw [e1, h1.2.1] at HP
      rw [e1, e2] at HL
      have HK1 := hid h1.2.1
      have HK2 := hid h2.2.1
      clear hn1 hm1 e1 e2 h1 h2
      go_enter Try.func6, Try.ntmps6
      go_wp2_with fail
      refine (alive_any _).mono ?_
      rintro e w1 ⟨rfl, b1⟩
      go_wp2_with fail
      refine (put_of n1 _ _ 0 H1 _).mono ?_
      rintro e w2 ⟨A2, c2, rfl, r2, b2⟩
      replace b1 := b1.trans (b2.mono b1.size)
      clear b2
      go_wp2_with fail
      refine (put_of m1 _ _ 0 H2 _).mono ?_
      rintro e w3 ⟨A3, c3, rfl, r3, b3⟩
      replace b1 := b1.trans (b3.mono b1.size)
      replace r2 := r2.keep b3
      clear b3
      have s2 := rd_string HK1 r2
      have s3 := rd_string HK2 r3
      have hkc : (k1 : Int) ≤ (c2 : Int) := by have := r2.len; have := HK1.out; omega
      have hcm : (c2 : Int) ≤ 9223372036854775807 := by have := r2.cap; omega
      by_cases hj : j < k1
      · have HT := hid (show (l1.take j).length = j by rw [List.length_take]; have := HK1.out; omega)
        have HB := hid (HP.out hj)
        go_wp2_with (go_at_call 10; refine (bad_yes A2 j c2 (l1.take j) HT HB _ (r2.take j)).mono ?_; rintro e w' ⟨rfl, rfl⟩)
        refine (size_of n1 k1 HS _).mono ?_
        rintro e w4 ⟨rfl, rfl⟩
        go_wp2
        go_ret
        exact ⟨rfl, b1⟩
      · have hj2 : ¬ (j : Int) < (k1 : Int) := by omega
        go_wp2_with (go_at_call 11; refine (size_of n1 k1 HS _).mono ?_; rintro e w4 ⟨rfl, rfl⟩)
        go_ret
        exact ⟨rfl, b1⟩

set_option maxRecDepth 100000 in
theorem norder_lifted (os : Os) (started : os.Started) (H : Type) (enc : TypeId × Value → H) :
    ReturnsInHanded {} Try.checked os 6 .any (Rows.numOrderSpec.pre6 enc Try.prog Try.f6 Rows.numOrderRow.domain false) (Rows.numOrderSpec.post enc Try.prog Try.f6 false true false false) := by
  refine returnsInHanded_of_change (C := Try.checked) own started (by kernel_rfl) Try.func6
    (ChangeSpec.witness6 (enc := enc) (C := Try.checked) false ⟨#[], #[.int .i64 0, .int .i64 0, .int .u8 0], []⟩ 8 (by kernel_rfl) (by kernel_rfl) (by kernel_rfl) (by kernel_rfl)) ?_
  intro W base args ds gs before hval0 hW _ _
  have hval : ∀ (j : Nat) t v, Try.f6.params[j]? = some t → args[j]? = some v → Value.okWide Try.prog W .any base t v := hval0
  have hW' := hW
  obtain ⟨p, q, hA0, hV, rfl, _, _⟩ := hW
  have hA : DataW.TrodAll enc Try.prog W 0 (fun _ => true) true Try.f6.params.toList args.toList ds p := hA0
  rw [Try.params6] at hA hval
  obtain ⟨v0, v1, v2, d0, d1, d2, p0, p1, p2, rfl, rfl, rfl, h0, h1, h2⟩ := trodAll_three hA
  obtain ⟨rfl, rfl⟩ := trodVars_none hV
  obtain ⟨n, rfl, hn⟩ := open_i64 (hval 0 _ v0 rfl rfl) h0
  obtain ⟨m, rfl, hm⟩ := open_i64 (hval 1 _ v1 rfl rfl) h1
  obtain ⟨k, rfl, hk⟩ := open_u8 (hval 2 _ v2 rfl rfl) h2
  refine (norder_walk n m k hn hm hk W).mono fun e W' ⟨he, hg⟩ => ?_
  subst he
  exact ⟨_, rfl, law_post laidOut (by kernel_rfl) rfl Try.underlying4 rfl rfl hW' hg⟩

theorem norder_holds : Rows.NumOrderSaid :=
  OpenClaim.holds_of_wide 6 Try.f6 rfl rfl rfl rfl rfl rfl rfl ⟨rfl, rfl, rfl, rfl, rfl⟩ rfl rfl rfl rfl rfl (by kernel_rfl) Try.func6 (by kernel_rfl)
    (of_decide_eq_true (by kernel_rfl)) (by unfold Func.isWrapper; rw [if_neg (of_decide_eq_false (by kernel_rfl))]; exact ⟨rfl, rfl⟩)
    (fun os started H enc _ => norder_lifted os started H enc)
#print axioms norder_holds
end Go.Proofs.Ytddhbcpohedbnaa
