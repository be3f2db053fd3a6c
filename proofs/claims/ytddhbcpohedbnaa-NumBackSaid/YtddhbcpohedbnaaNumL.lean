/-
  What is written is read, whatever stands behind; what is read is written as just these bytes: the statement NumBack, for every number and all bytes.
-/
import Derived.Test.YtddhbcpohedbnaaNumK
namespace Go.Proofs.Ytddhbcpohedbnaa
open Go.ChangeShapes Go.WideShapes Go.ChangeAt Go.RowKit Go.Joins
set_option linter.unusedVariables false

set_option maxHeartbeats 2000000 in
theorem nback_walk (n : Int) (A : Option Addr) (k c : Nat) (l : List UInt8) (hn : -9223372036854775808 ≤ n ∧ n < 9223372036854775808) (w : World) (hr : Hid (l.length = k) ∧ Rd w A c l) :
    Calls Try.prog 5 #[.int .i64 n, .slice A k c] w fun e w' => e = .returned (.bool true) ∧ Below w.heap.size w w' := by
  clear hn
  obtain ⟨HK, hr⟩ := hr
  obtain ⟨i0, hi0, hz0, hz1, hz2⟩ := info_parts info_u8
  have hkc : (k : Int) ≤ (c : Int) := by have := hr.len; have := HK.out; omega
  have hcm : (c : Int) ≤ 9223372036854775807 := by have := hr.cap; omega
  by_cases hbig : 10000 < k
  · have hb2 : (10000 : Int) < (k : Int) := by omega
    clear hi0 hz0 hz1 hz2
    go_enter Try.func5, Try.ntmps5
    go_wp2_with fail
    refine (alive_any _).mono ?_
    rintro e w1 ⟨rfl, b1⟩
    replace hr := hr.keep b1
    go_wp2
    go_ret
    exact ⟨rfl, b1⟩
  have hk2 : (k : Int) ≤ 10000 := by omega
  have hall : (gN l = 0 ∧ gS l = 0 ∧ gE l = 8) ∨ (∃ m s : Nat, (gN l = m ∧ gS l = s ∧ gE l = 0) ∧ (putB m = l.take s ∧ (l.take s).length = s ∧ putE m = 0) ∧ s ≤ k) := by
    match hg : getP l with
    | none => exact .inl (getP_none hg)
    | some (m, s) =>
      obtain ⟨hm, hs, hl, ht⟩ := getP_some hg
      refine .inr ⟨m, s, getP_of hg, ⟨by rw [putB_of hm, ht], by rw [List.length_take]; omega, by simp [putE, may_of hm]⟩, by have := HK.out; omega⟩
  have HA := hid hall
  clear hall
  cases h1 : may n
  · have H1 := hid (put_no h1)
    clear h1 hi0 hz0 hz1 hz2
    go_enter Try.func5, Try.ntmps5
    go_wp2_with fail
    refine (alive_any _).mono ?_
    rintro e w1 ⟨rfl, b1⟩
    replace hr := hr.keep b1
    go_wp2_with fail
    refine (put_of n [] 0 2 H1 _).mono ?_
    rintro e w2 ⟨A2, c2, rfl, _, b2⟩
    replace b1 := b1.trans (b2.mono b1.size)
    replace hr := hr.keep b2
    clear b2
    rcases HA.out with h2 | ⟨m, s, h2, h3, h4⟩
    · have GN := hid h2
      clear h2
      go_wp2_with fail
      refine (get_of 0 0 8 A k c l HK GN _ hr).mono ?_
      rintro e w5 ⟨rfl, rfl⟩
      go_wp2
      go_ret
      exact ⟨rfl, b1⟩
    · have GN := hid h2
      have GP := hid h3
      have GT := hid h3.2.1
      have hsk : (s : Int) ≤ (k : Int) := by omega
      clear h2 h3 h4
      go_wp2_with fail
      refine (get_of m s 0 A k c l HK GN _ hr).mono ?_
      rintro e w5 ⟨rfl, rfl⟩
      go_wp2_with fail
      refine (put_of m (l.take s) s 0 GP _).mono ?_
      rintro e w6 ⟨A6, c6, rfl, r6, b6⟩
      replace b1 := b1.trans (b6.mono b1.size)
      replace hr := hr.keep b6
      clear b6
      have q6 := rd_past GT r6
      have q7 := rd_past GT (hr.take s)
      go_wp2_with fail
      refine wp_region_past (by kernel_rfl) (by kernel_rfl) ?_
      repeat (go_big_quiet_step (fail))
      refine wpQuiet_nil ?_
      rintro _ ⟨⟨w7, hx⟩, rfl⟩
      clear q6 q7
      go_wp2
      go_ret
      exact ⟨rfl, b1.trans (hx.mono b1.size)⟩
  · obtain ⟨n1, rfl, hn1, -⟩ := may_nat h1
    clear h1
    obtain ⟨l1, k1, e1, h1⟩ := put_yes hn1
    have hk1 : k1 ≤ 8 := by have := (enc_bounds hn1).2; rw [e1, h1.2.1] at this; exact this
    have hgp := getP_enc hn1 l
    rw [e1, h1.2.1] at hgp
    have GA := hid (getP_of hgp)
    have H1 := hid h1
    have HK1 := hid h1.2.1
    clear h1 hgp e1 hn1
    go_enter Try.func5, Try.ntmps5
    go_wp2_with fail
    refine (alive_any _).mono ?_
    rintro e w1 ⟨rfl, b1⟩
    replace hr := hr.keep b1
    go_wp2_with fail
    refine (put_of n1 l1 k1 0 H1 _).mono ?_
    rintro e w2 ⟨A2, c2, rfl, r2, b2⟩
    replace b1 := b1.trans (b2.mono b1.size)
    replace hr := hr.keep b2
    clear b2
    go_wp2_with (first | (at_builtin; refine wpList_append_rd rfl (.const (.slice none 0 0)) (.tmp 33) _ rfl w2.heap.size 5 Try.underlying25 hi0 hz0 hz1 hz2 none 0 0 [] (hid rfl) rfl (Own.nil _ _ _) A2 k1 c2 l1 HK1 rfl r2 (by omega) (Nat.le_refl _) ?_; intro A3 c3 w3 hown b3) | (at_builtin; refine wpList_append_rd rfl (.tmp 34) (.tmp 35) _ rfl w2.heap.size 5 Try.underlying25 hi0 hz0 hz1 hz2 A3 k1 c3 ([] ++ l1) (hid (by simp; exact HK1.out)) rfl hown A k c l HK rfl (hr.keep b3) (by omega) b3.size ?_; intro A4 c4 w4 hown4 b4))
    have r4 := hown4.rd
    rw [List.nil_append] at r4
    have HK4 := hid (show (l1 ++ l).length = k1 + k by rw [List.length_append, HK1.out, HK.out])
    refine (get_of n1 k1 0 A4 (k1 + k) c4 (l1 ++ l) HK4 GA _ r4).mono ?_
    rintro e w5 ⟨rfl, rfl⟩
    replace hr := hr.keep (b3.trans b4)
    replace b1 := b1.trans ((b3.trans b4).mono b1.size)
    clear r2 hown hown4 r4 b3 b4 GA H1 HK1 HK4 hi0 hz0 hz1 hz2
    rcases HA.out with h2 | ⟨m, s, h2, h3, h4⟩
    · have GN := hid h2
      clear h2
      go_wp2_with fail
      refine (get_of 0 0 8 A k c l HK GN _ hr).mono ?_
      rintro e w5 ⟨rfl, rfl⟩
      go_wp2
      go_ret
      exact ⟨rfl, b1⟩
    · have GN := hid h2
      have GP := hid h3
      have GT := hid h3.2.1
      have hsk : (s : Int) ≤ (k : Int) := by omega
      clear h2 h3 h4
      go_wp2_with fail
      refine (get_of m s 0 A k c l HK GN _ hr).mono ?_
      rintro e w5 ⟨rfl, rfl⟩
      go_wp2_with fail
      refine (put_of m (l.take s) s 0 GP _).mono ?_
      rintro e w6 ⟨A6, c6, rfl, r6, b6⟩
      replace b1 := b1.trans (b6.mono b1.size)
      replace hr := hr.keep b6
      clear b6
      have q6 := rd_past GT r6
      have q7 := rd_past GT (hr.take s)
      go_wp2_with fail
      refine wp_region_past (by kernel_rfl) (by kernel_rfl) ?_
      repeat (go_big_quiet_step (fail))
      refine wpQuiet_nil ?_
      rintro _ ⟨⟨w7, hx⟩, rfl⟩
      clear q6 q7
      go_wp2
      go_ret
      exact ⟨rfl, b1.trans (hx.mono b1.size)⟩

set_option maxRecDepth 100000 in
theorem nback_lifted (os : Os) (started : os.Started) (H : Type) (enc : TypeId × Value → H) :
    ReturnsInHanded {} Try.checked os 5 .any (Rows.numBackSpec.pre6 enc Try.prog Try.f5 Rows.numBackRow.domain false) (Rows.numBackSpec.post enc Try.prog Try.f5 false true false false) := by
  refine returnsInHanded_of_change (C := Try.checked) own started (by kernel_rfl) Try.func5
    (ChangeSpec.witness6 (enc := enc) (C := Try.checked) false ⟨#[], #[.int .i64 0, .slice none 0 0], []⟩ 8 (by kernel_rfl) (by kernel_rfl) (by kernel_rfl) (by kernel_rfl)) ?_
  intro W base args ds gs before hval0 hW _ _
  have hval : ∀ (j : Nat) t v, Try.f5.params[j]? = some t → args[j]? = some v → Value.okWide Try.prog W .any base t v := hval0
  have hW' := hW
  obtain ⟨p, q, hA0, hV, rfl, _, _⟩ := hW
  have hA : DataW.TrodAll enc Try.prog W 0 (fun _ => true) true Try.f5.params.toList args.toList ds p := hA0
  rw [Try.params5] at hA hval
  obtain ⟨v0, v1, d0, d1, p0, p1, rfl, rfl, rfl, h0, h1⟩ := trodAll_two hA
  obtain ⟨rfl, rfl⟩ := trodVars_none hV
  obtain ⟨n, rfl, hn⟩ := open_i64 (hval 0 _ v0 rfl rfl) h0
  obtain ⟨A, k, c, l, rfl, hr⟩ := open_bytes (hval 1 _ v1 rfl rfl) h1
  refine (nback_walk n A k c l hn W hr).mono fun e W' ⟨he, hg⟩ => ?_
  subst he
  exact ⟨_, rfl, law_post laidOut (by kernel_rfl) rfl Try.underlying4 rfl rfl hW' hg⟩

theorem nback_holds : Rows.NumBackSaid :=
  OpenClaim.holds_of_wide 5 Try.f5 rfl rfl rfl rfl rfl rfl rfl ⟨rfl, rfl, rfl, rfl, rfl⟩ rfl rfl rfl rfl rfl (by kernel_rfl) Try.func5 (by kernel_rfl)
    (of_decide_eq_true (by kernel_rfl)) (by unfold Func.isWrapper; rw [if_neg (of_decide_eq_false (by kernel_rfl))]; exact ⟨rfl, rfl⟩)
    (fun os started H enc _ => nback_lifted os started H enc)
#print axioms nback_holds
end Go.Proofs.Ytddhbcpohedbnaa
