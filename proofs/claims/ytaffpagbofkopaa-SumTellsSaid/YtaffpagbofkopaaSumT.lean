/-
  Sums, their bytes, and what is right, are the document's, and what is handed in stays: the statement SumTells, for all bytes and every number. Conditions: none (of more than 10,000 bytes the statement itself asks nothing).
-/
import Derived.Test.YtaffpagbofkopaaSumK
import Derived.Test.YtaffpagbofkopaaSumG
namespace Go.Proofs.Ytaffpagbofkopaa
open Go.ChangeShapes Go.WideShapes Go.ChangeAt Go.RowKit Go.Joins
set_option linter.unusedVariables false

theorem refright_of (v : Bool) (A : Option Addr) (n c : Nat) (l : List UInt8) (hn : Hid (l.length = n)) (hv : Hid (rightB l = v)) (w : World) (hr : Rd w A c l) :
    Calls Try.prog 14 #[.slice A n c] w fun e w' => e = .returned (.bool v) ∧ Below w.heap.size w w' := by
  have e := hv.out
  subst e
  exact refright_any A n c l hn w hr
theorem refbytes_of (z : Int) (l : List UInt8) (hz : Hid (∃ s : Nat, z = (s : Int) ∧ three s = l ∧ s < 4294967296)) (w : World) :
    Calls Try.prog 13 #[.int .u32 z] w fun e w' => ∃ A, e = .returned (.slice A 3 3) ∧ Rd w' A 3 l ∧ Below w.heap.size w w' := by
  obtain ⟨s, rfl, rfl, hs⟩ := hz.out
  exact refbytes_rd _ s (hid rfl) hs w

set_option maxRecDepth 100000 in
set_option maxHeartbeats 4000000 in
theorem stells_walk (A : Option Addr) (k c : Nat) (l : List UInt8) (s : Nat) (hs : s < 4294967296) (w : World) (hr : Hid (l.length = k) ∧ Rd w A c l) :
    Calls Try.prog 4 #[.slice A k c, .int .u32 (s : Int)] w fun e w' => e = .returned (.bool true) ∧ Below w.heap.size w w' := by
  obtain ⟨HK, hr⟩ := hr
  obtain ⟨i0, hi0, hz0, hz1, hz2⟩ := info_parts info_u8
  by_cases hbig : 10000 < k
  · have hb2 : (10000 : Int) < (k : Int) := by omega
    clear hi0 hz0 hz1 hz2
    go_enter Try.func4, Try.ntmps4
    go_wp2
    go_ret
    exact ⟨rfl, Below.refl _ _⟩
  have hk2 : (k : Int) ≤ 10000 := by omega
  obtain ⟨z, hz⟩ : ∃ z, sumOf l = z := ⟨_, rfl⟩
  have HZ := hid hz
  obtain ⟨v, hv⟩ : ∃ v, rightB l = v := ⟨_, rfl⟩
  have HV := hid hv
  obtain ⟨t, ht⟩ : ∃ t, three s = t := ⟨_, rfl⟩
  have H1 : Hid (∃ t0 : Nat, (s : Int) = (t0 : Int) ∧ three t0 = t ∧ t0 < 4294967296) := hid ⟨_, rfl, ht, hs⟩
  have HT := hid (show t.length = 3 by rw [← ht]; rfl)
  have HO := hid (show (l ++ [1, 2, 3]).length = k + 3 by rw [List.length_append, HK.out]; rfl)
  have HTK := hid (show (l ++ [1, 2, 3]).take k = l by rw [← HK.out]; simp)
  generalize (s : Int) = sz at H1 ⊢
  clear hz hv ht hbig
  go_enter Try.func4, Try.ntmps4
  go_wp2_with (first | (at_builtin; refine wpList_append_rd rfl (.const (.slice none 0 0)) (.tmp 11) _ rfl w.heap.size 5 Try.underlying26 hi0 hz0 hz1 hz2 none 0 0 [] (hid rfl) rfl (Own.nil _ _ _) A k c l HK rfl hr (by omega) (Nat.le_refl _) ?_; intro A3 c3 w3 hown3 b3) | (at_builtin; refine wpList_append_rd rfl (.tmp 12) (.tmp 13) _ rfl w.heap.size 5 Try.underlying26 hi0 hz0 hz1 hz2 A3 k c3 ([] ++ l) (hid (by simp; exact HK.out)) rfl (hown3.keep ((Below.refl _ _).alloc (Nat.le_refl _) _)) (some ⟨w3.heap.size, 0, none⟩) 3 3 [1, 2, 3] (hid rfl) rfl (lit_rd w3 [1, 2, 3] (by simp)) (by omega) (Nat.le_trans b3.size (by simp)) ?_; intro A4 c4 w4 hown4 b4))
  replace b3 := (b3.alloc b3.size _).trans b4
  rw [List.nil_append] at hown4
  replace hr := hr.keep b3
  have r4 := hown4.rd
  clear hown3 hown4 b4 hi0 hz0 hz1 hz2
  refine (bytes_rd sz t H1 _).mono ?_
  rintro e w5 ⟨A5, rfl, r5, b5⟩
  replace r4 := r4.keep b5
  replace hr := hr.keep b5
  replace b3 := b3.trans (b5.mono b3.size)
  clear b5
  have hk4 := r4.len
  have hc4 := r4.cap
  rw [HO.out] at hk4
  obtain ⟨b, o, rfl, _⟩ := r4.at_ (by rw [HO.out]; omega)
  have hc5 : (k : Int) ≤ (c4 : Int) := by omega
  have hc6 : ¬ c4 = 0 := by omega
  have r6 := r4.take k
  rw [HTK.out] at r6
  go_wp2_with fail
  have hx : ∀ w' : World, Below w5.heap.size w5 w' → (convert 26 9 (.slice A5 3 3)).run Try.prog w' = .ok (.string ⟨t.toArray⟩) w' := fun w' h => rd_string HT (r5.keep h)
  go_region_held (fun w' => Below w5.heap.size w5 w') (first | assumption | exact (Below.refl _ _).drew | exact below_step (by assumption) hb1 | exact below_step (by assumption) hb2 | exact below_step (by assumption) hb3)
    (first | (go_at_call 9; refine (of_of z (some ⟨b, o, none⟩) k c4 l HK HZ _ (r6.keep (by assumption))).mono ?_; rintro e w6 ⟨rfl, rfl⟩) | (go_at_call 12; refine (refof_of z A k c l HK HZ _ (hr.keep (by assumption))).mono ?_; rintro e w6 ⟨rfl, rfl⟩) | (go_at_call 13; refine (refbytes_of sz t H1 _).mono ?_; rintro e w6 ⟨A1, rfl, hr1, hb1⟩; have s1 := rd_string HT hr1) | (go_at_call 10; refine (right_of v (some ⟨b, o, none⟩) k c4 l HK (by omega) HV _ (r6.keep (by assumption))).mono ?_; rintro e w7 ⟨rfl, hb2⟩) | (go_at_call 14; refine (refright_of v A k c l HK HV _ (hr.keep (by assumption))).mono ?_; rintro e w8 ⟨rfl, hb3⟩))
  have hh : Below w5.heap.size w5 w8 := by assumption
  have s2 := rd_string HO (r4.keep hh)
  have s3 := rd_string HK (hr.keep hh)
  replace b3 := b3.trans (hh.mono b3.size)
  clear hx s1 hr1 hb1 hb2 hb3 r4 r6
  have hcat : ¬ 9223372036854775807 < l.length + 3 := by rw [HK.out]; omega
  go_wp2
  go_ret
  exact ⟨ret_bool (by rw [ByteArray.mk_append_mk l [1, 2, 3], ByteArray.toList_mk]; simp), b3⟩

set_option maxRecDepth 100000 in
theorem stells_lifted (os : Os) (started : os.Started) (H : Type) (enc : TypeId × Value → H) :
    ReturnsInHanded {} Try.checked os 4 .any (Rows.sumTellsSpec.pre6 enc Try.prog Try.f4 Rows.sumTellsRow.domain false) (Rows.sumTellsSpec.post enc Try.prog Try.f4 false true false false) := by
  refine returnsInHanded_of_change (C := Try.checked) own started (by kernel_rfl) Try.func4
    (ChangeSpec.witness6 (enc := enc) (C := Try.checked) false ⟨#[], #[.slice none 0 0, .int .u32 0], []⟩ 8 (by kernel_rfl) (by kernel_rfl) (by kernel_rfl) (by kernel_rfl)) ?_
  intro W base args ds gs before hval0 hW _ _
  have hval : ∀ (j : Nat) t v, Try.f4.params[j]? = some t → args[j]? = some v → Value.okWide Try.prog W .any base t v := hval0
  have hW' := hW
  obtain ⟨p, q, hA0, hV, rfl, _, _⟩ := hW
  have hA : DataW.TrodAll enc Try.prog W 0 (fun _ => true) true Try.f4.params.toList args.toList ds p := hA0
  rw [Try.params4] at hA hval
  obtain ⟨v0, v1, d0, d1, p0, p1, rfl, rfl, rfl, h0, h1⟩ := trodAll_two hA
  obtain ⟨rfl, rfl⟩ := trodVars_none hV
  obtain ⟨A, k, c, l, rfl, hr⟩ := open_bytes (hval 0 _ v0 rfl rfl) h0
  obtain ⟨s, rfl, hs⟩ := open_u32 (hval 1 _ v1 rfl rfl) h1
  refine (stells_walk A k c l s hs W hr).mono fun e W' ⟨he, hg⟩ => ?_
  subst he
  exact ⟨_, rfl, law_post laidOut (by kernel_rfl) rfl Try.underlying4 rfl rfl hW' hg⟩

theorem stells_holds : Rows.SumTellsSaid :=
  OpenClaim.holds_of_wide 4 Try.f4 rfl rfl rfl rfl rfl rfl rfl ⟨rfl, rfl, rfl, rfl, rfl⟩ rfl rfl rfl rfl rfl (by kernel_rfl) Try.func4 (by kernel_rfl)
    (of_decide_eq_true (by kernel_rfl)) (by unfold Func.isWrapper; rw [if_neg (of_decide_eq_false (by kernel_rfl))]; exact ⟨rfl, rfl⟩)
    (fun os started H enc _ => stells_lifted os started H enc)
#print axioms stells_holds
end Go.Proofs.Ytaffpagbofkopaa
