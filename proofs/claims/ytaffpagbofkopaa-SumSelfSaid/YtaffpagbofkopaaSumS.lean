/-
  Bytes and their sum's have the sum 0 and are right, and no other sum's are: the statement SumSelf, for all bytes and every number. Conditions: none (of more than 10,000 bytes the statement itself asks nothing but its example).
-/
import Derived.Test.YtaffpagbofkopaaSumK
namespace Go.Proofs.Ytaffpagbofkopaa
open Go.ChangeShapes Go.WideShapes Go.ChangeAt Go.RowKit Go.Joins
set_option linter.unusedVariables false

set_option maxHeartbeats 2000000 in
theorem sself_walk (A : Option Addr) (k c : Nat) (l : List UInt8) (s : Nat) (hs : s < 4294967296) (w : World) (hr : Hid (l.length = k) ∧ Rd w A c l) :
    Calls Try.prog 5 #[.slice A k c, .int .u32 (s : Int)] w fun e w' => e = .returned (.bool true) ∧ Below w.heap.size w w' := by
  obtain ⟨HK, hr⟩ := hr
  obtain ⟨i0, hi0, hz0, hz1, hz2⟩ := info_parts info_u8
  by_cases hbig : 10000 < k
  · have hb2 : (10000 : Int) < (k : Int) := by omega
    clear hi0 hz0 hz1 hz2
    go_enter Try.func5, Try.ntmps5
    go_wp2_with fail
    refine (alive_any _).mono ?_
    rintro e w1 ⟨rfl, b1⟩
    go_wp2
    go_ret
    exact ⟨rfl, b1⟩
  have hk2 : (k : Int) ≤ 10000 := by omega
  have hm := sm_lt first_lt l
  obtain ⟨z, hz⟩ : ∃ z, sumOf l = z := ⟨_, rfl⟩
  have hz3 : z = (sm first l : Nat) := by rw [← hz]; rfl
  have HZ := hid hz
  have hz4 : z < 16777216 := by omega
  have H1 : Hid (∃ t : Nat, z = (t : Int) ∧ three t = three (sm first l) ∧ t < 4294967296) := hid ⟨_, hz3, rfl, by omega⟩
  have H2 : Hid (∃ t : Nat, (s : Int) = (t : Int) ∧ three t = three s ∧ t < 4294967296) := hid ⟨_, rfl, rfl, hs⟩
  have H3 := hid (show sumOf (l ++ three (sm first l)) = 0 by unfold sumOf; rw [sm_append, sm_three hm]; rfl)
  have H4 := hid (show rightB (l ++ three (sm first l)) = true by rw [right_behind]; simp; omega)
  have H5 := hid (right_behind l s)
  have hv : ∃ v : Bool, (((s : Int) % 16777216 == z) = v) ∧ Hid (rightB (l ++ three s) = v) := by
    refine ⟨_, rfl, ?_⟩
    refine hid ?_
    rw [H5.out, hz3, Bool.eq_iff_iff, decide_eq_true_eq, beq_iff_eq]
    omega
  obtain ⟨v, hv, HV⟩ := hv
  have HL1 := hid (show (l ++ three (sm first l)).length = k + 3 by rw [List.length_append, HK.out, three_length])
  have HL2 := hid (show (l ++ three s).length = k + 3 by rw [List.length_append, HK.out, three_length])
  generalize three (sm first l) = t1 at H1 H3 H4 HL1
  generalize three s = t2 at H2 H5 HV HL2
  have HT1 := hid (show t1.length = 3 by have := HL1.out; have := HK.out; rw [List.length_append] at *; omega)
  have HT2 := hid (show t2.length = 3 by have := HL2.out; have := HK.out; rw [List.length_append] at *; omega)
  clear hz hz3 hm hbig H5
  go_enter Try.func5, Try.ntmps5
  go_wp2_with fail
  refine (alive_any _).mono ?_
  rintro e w1 ⟨rfl, b1⟩
  go_wp2_with fail
  refine (of_of z A k c l HK HZ _ (hr.keep b1)).mono ?_
  rintro e w2 ⟨rfl, rfl⟩
  go_wp2_with (at_builtin; refine wpList_append_rd rfl (.const (.slice none 0 0)) (.tmp 20) _ rfl w1.heap.size 5 Try.underlying26 hi0 hz0 hz1 hz2 none 0 0 [] (hid rfl) rfl (Own.nil _ _ _) A k c l HK rfl (hr.keep b1) (by omega) (Nat.le_refl _) ?_; intro A3 c3 w3 hown3 b3)
  refine (bytes_rd z t1 H1 _).mono ?_
  rintro e w4 ⟨A4, rfl, r4, b4⟩
  rw [List.nil_append] at hown3
  replace hown3 := hown3.keep b4
  replace b3 := b3.trans (b4.mono b3.size)
  clear b4
  go_wp2_with (first | (at_builtin; refine wpList_append_rd rfl (.tmp 21) (.tmp 23) _ rfl w1.heap.size 5 Try.underlying26 hi0 hz0 hz1 hz2 A3 k c3 l HK rfl hown3 A4 3 3 t1 HT1 rfl r4 (by omega) b3.size ?_; intro A5 c5 w5 hown5 b5) | (at_builtin; refine wpList_append_rd rfl (.const (.slice none 0 0)) (.tmp 25) _ rfl w5.heap.size 5 Try.underlying26 hi0 hz0 hz1 hz2 none 0 0 [] (hid rfl) rfl (Own.nil _ _ _) A k c l HK rfl (hr.keep ((b1.trans (b3.mono b1.size)).trans (b5.mono b1.size))) (by omega) (Nat.le_refl _) ?_; intro A6 c6 w6 hown6 b6))
  replace b1 := (b1.trans (b3.mono b1.size)).trans (b5.mono b1.size)
  clear b3 b5 hown3 r4
  refine (bytes_rd (s : Int) t2 H2 _).mono ?_
  rintro e w7 ⟨A7, rfl, r7, b7⟩
  rw [List.nil_append] at hown6
  replace hown6 := hown6.keep b7
  replace b6 := b6.trans (b7.mono b6.size)
  clear b7
  go_wp2_with (at_builtin; refine wpList_append_rd rfl (.tmp 26) (.tmp 28) _ rfl w5.heap.size 5 Try.underlying26 hi0 hz0 hz1 hz2 A6 k c6 l HK rfl hown6 A7 3 3 t2 HT2 rfl r7 (by omega) b6.size ?_; intro A8 c8 w8 hown8 b8)
  replace b6 := b6.trans b8
  have r5 := hown5.rd.keep b6
  have r8 := hown8.rd
  replace b1 := b1.trans (b6.mono b1.size)
  clear b6 b8 hown5 hown6 hown8 r7 hi0 hz0 hz1 hz2
  refine (of_of 0 A5 (k + 3) c5 _ HL1 H3 _ r5).mono ?_
  rintro e w9 ⟨rfl, rfl⟩
  go_wp2_with fail
  refine (right_of true A5 (k + 3) c5 _ HL1 (by omega) H4 _ r5).mono ?_
  rintro e w10 ⟨rfl, b10⟩
  replace r8 := r8.keep b10
  replace b1 := b1.trans (b10.mono b1.size)
  clear b10
  go_wp2_with fail
  refine (right_of v A8 (k + 3) c8 _ HL2 (by omega) HV _ r8).mono ?_
  rintro e w11 ⟨rfl, b11⟩
  replace b1 := b1.trans (b11.mono b1.size)
  go_wp2
  go_ret
  exact ⟨rfl, b1⟩

set_option maxRecDepth 100000 in
theorem sself_lifted (os : Os) (started : os.Started) (H : Type) (enc : TypeId × Value → H) :
    ReturnsInHanded {} Try.checked os 5 .any (Rows.sumSelfSpec.pre6 enc Try.prog Try.f5 Rows.sumSelfRow.domain false) (Rows.sumSelfSpec.post enc Try.prog Try.f5 false true false false) := by
  refine returnsInHanded_of_change (C := Try.checked) own started (by kernel_rfl) Try.func5
    (ChangeSpec.witness6 (enc := enc) (C := Try.checked) false ⟨#[], #[.slice none 0 0, .int .u32 0], []⟩ 8 (by kernel_rfl) (by kernel_rfl) (by kernel_rfl) (by kernel_rfl)) ?_
  intro W base args ds gs before hval0 hW _ _
  have hval : ∀ (j : Nat) t v, Try.f5.params[j]? = some t → args[j]? = some v → Value.okWide Try.prog W .any base t v := hval0
  have hW' := hW
  obtain ⟨p, q, hA0, hV, rfl, _, _⟩ := hW
  have hA : DataW.TrodAll enc Try.prog W 0 (fun _ => true) true Try.f5.params.toList args.toList ds p := hA0
  rw [Try.params5] at hA hval
  obtain ⟨v0, v1, d0, d1, p0, p1, rfl, rfl, rfl, h0, h1⟩ := trodAll_two hA
  obtain ⟨rfl, rfl⟩ := trodVars_none hV
  obtain ⟨A, k, c, l, rfl, hr⟩ := open_bytes (hval 0 _ v0 rfl rfl) h0
  obtain ⟨s, rfl, hs⟩ := open_u32 (hval 1 _ v1 rfl rfl) h1
  refine (sself_walk A k c l s hs W hr).mono fun e W' ⟨he, hg⟩ => ?_
  subst he
  exact ⟨_, rfl, law_post laidOut (by kernel_rfl) rfl Try.underlying4 rfl rfl hW' hg⟩

theorem sself_holds : Rows.SumSelfSaid :=
  OpenClaim.holds_of_wide 5 Try.f5 rfl rfl rfl rfl rfl rfl rfl ⟨rfl, rfl, rfl, rfl, rfl⟩ rfl rfl rfl rfl rfl (by kernel_rfl) Try.func5 (by kernel_rfl)
    (of_decide_eq_true (by kernel_rfl)) (by unfold Func.isWrapper; rw [if_neg (of_decide_eq_false (by kernel_rfl))]; exact ⟨rfl, rfl⟩)
    (fun os started H enc _ => sself_lifted os started H enc)
#print axioms sself_holds
end Go.Proofs.Ytaffpagbofkopaa
