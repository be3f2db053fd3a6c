/-
  A text's runes, rows, their bytes and texts, are told as the document says, and what is handed in stays: the statement RunesTell, for every text, row, places, bytes and mark. Conditions: none (of more than 2,000 of anything, or a mark of more than 100 bytes, the statement itself asks nothing).
-/
import Derived.Test.YtikcknngcdjnhaaRunK
namespace Go.Proofs.Ytikcknngcdjnhaa
open Go.ChangeShapes Go.WideShapes Go.ChangeAt Go.RowKit Go.Joins
set_option linter.unusedVariables false

set_option maxRecDepth 100000 in
set_option maxHeartbeats 8000000 in
theorem rtell_main (s : ByteArray) (A : Option Addr) (n c : Nat) (l : List Int) (B : Option Addr) (m d : Nat) (p : List Bool) (C : Option Addr) (k e : Nat) (b : List UInt8) (t : ByteArray) (w : World) (HN : Hid (l.length = n)) (hr : Ri w A c l) (HM : Hid (p.length = m)) (hq : Rb w B d p) (HK : Hid (b.length = k)) (ht : Rd w C e b)
    (g0 : s.size ≤ 2000) (g1 : n ≤ 2000) (g2 : m ≤ 2000) (g3 : k ≤ 2000) (g4 : t.size ≤ 100) :
    Calls Try.prog 4 #[.string s, .slice A n c, .slice B m d, .slice C k e, .string t] w fun e w' => e = .returned (.bool true) ∧ Below w.heap.size w w' := by
  obtain ⟨i0, hi0, hz0, hz1, hz2⟩ := info_parts info_i32
  have g0' : ¬ (2000 : Int) < (s.size : Int) := by omega
  have g1' : ¬ (2000 : Int) < (n : Int) := by omega
  have g2' : ¬ (2000 : Int) < (m : Int) := by omega
  have g3' : ¬ (2000 : Int) < (k : Int) := by omega
  have g4' : ¬ (100 : Int) < (t.size : Int) := by omega
  obtain ⟨L, hL⟩ : ∃ L, s.data.toList = L := ⟨_, rfl⟩
  obtain ⟨T, hT⟩ : ∃ T, t.data.toList = T := ⟨_, rfl⟩
  obtain ⟨tq, htq⟩ : ∃ tq, T.length = tq := ⟨_, rfl⟩
  have htq2 : tq ≤ 1000 := by
    have e1 : t.data.toList.length = t.size := Array.length_toList
    rw [← htq, ← hT]
    omega
  have HS := hid hL
  have HT := hid (show t.data.toList = T ∧ T.length = tq from ⟨hT, htq⟩)
  obtain ⟨v, hv⟩ : ∃ v, ofE L = v := ⟨_, rfl⟩
  obtain ⟨N, hN⟩ : ∃ N, ofV L = N := ⟨_, rfl⟩
  obtain ⟨nn, hnn⟩ : ∃ nn, N.length = nn := ⟨_, rfl⟩
  have HO := hid (show ofV L = N ∧ ofE L = v ∧ N.length = nn from ⟨hN, hv, hnn⟩)
  have HNL := hid hnn
  obtain ⟨z, hz⟩ : ∃ z, chk l = z := ⟨_, rfl⟩
  obtain ⟨Y, hY⟩ : ∃ Y, putV l = Y := ⟨_, rfl⟩
  obtain ⟨q, hq'⟩ : ∃ q, Y.length = q := ⟨_, rfl⟩
  have HP := hid (show putV l = Y ∧ chk l = z ∧ Y.length = q from ⟨hY, hz, hq'⟩)
  have HZ := hid hz
  have HQ := hid hq'
  obtain ⟨u, hu⟩ : ∃ u, getE b = u := ⟨_, rfl⟩
  obtain ⟨M, hM⟩ : ∃ M, getV b = M := ⟨_, rfl⟩
  obtain ⟨r, hr'⟩ : ∃ r, M.length = r := ⟨_, rfl⟩
  have HG := hid (show getV b = M ∧ getE b = u ∧ M.length = r from ⟨hM, hu, hr'⟩)
  have HML := hid hr'
  obtain ⟨y, hy⟩ : ∃ y, hidE l p = y := ⟨_, rfl⟩
  obtain ⟨X, hX⟩ : ∃ X, hidV l p = X := ⟨_, rfl⟩
  obtain ⟨xx, hxx⟩ : ∃ xx, X.length = xx := ⟨_, rfl⟩
  have HH := hid (show hidV l p = X ∧ hidE l p = y ∧ X.length = xx from ⟨hX, hy, hxx⟩)
  have HXL := hid hxx
  obtain ⟨V, hV⟩ : ∃ V, textV l T = V := ⟨_, rfl⟩
  have HV := hid (show textV l T = V ∧ chk l = z from ⟨hV, hz⟩)
  have S1 := hid (sameI_self N)
  have S2 := hid (sameI_self M)
  have S3 := hid (sameI_self X)
  have S4 := hid (sameI_self l)
  clear hL hT htq hv hN hnn hz hY hq' hu hM hr' hy hX hxx hV
  go_enter Try.func4, Try.ntmps4
  go_wp2_with (at_builtin; refine wpList_append_i rfl (.const (.slice none 0 0)) (.tmp 59) _ rfl w.heap.size 21 Try.underlying22 hi0 hz0 hz1 hz2 none 0 0 [] (hid rfl) rfl (OwnI.nil _ _ _) A n c l HN rfl hr (by omega) (Nat.le_refl _) ?_; intro A1 c1 w1 hown b1; rw [List.nil_append] at hown; have ho := hown.ri; have hs0 := rd_string HK (ht.keep b1))
  refine (of_any s L HS (by omega) _).mono ?_
  intro _ w2 h
  obtain ⟨A2, c2, rfl, hA, bx⟩ := h.at_ HO
  replace b1 := b1.trans (bx.mono b1.size)
  replace ho := ho.keep bx
  clear h bx
  go_wp2_with fail
  refine (refof_any s L HS (by omega) _).mono ?_
  intro _ w3 h
  obtain ⟨A3, c3, rfl, hB, bx⟩ := h.at_ HO
  replace b1 := b1.trans (bx.mono b1.size)
  replace ho := ho.keep bx
  replace hA := hA.keep bx
  clear h bx
  go_wp2_with fail
  refine (put_any A1 n c1 l HN _ ho).mono ?_
  intro _ w4 h
  obtain ⟨A4, c4, rfl, hY1, bx⟩ := h.at_ HP
  replace b1 := b1.trans (bx.mono b1.size)
  replace ho := ho.keep bx
  replace hA := hA.keep bx
  replace hB := hB.keep bx
  clear h bx
  go_wp2_with fail
  refine (refput_any A n c l HN _ (hr.keep b1)).mono ?_
  intro _ w5 h
  obtain ⟨A5, c5, rfl, hY2, bx⟩ := h.at_ HP
  replace b1 := b1.trans (bx.mono b1.size)
  replace ho := ho.keep bx
  replace hA := hA.keep bx
  replace hB := hB.keep bx
  replace hY1 := hY1.keep bx
  clear h bx
  go_wp2_with fail
  refine (get_any C k e b HK _ (ht.keep b1)).mono ?_
  intro _ w6 h
  obtain ⟨A6, c6, rfl, hM1, bx⟩ := h.at_ HG
  replace b1 := b1.trans (bx.mono b1.size)
  replace ho := ho.keep bx
  replace hA := hA.keep bx
  replace hB := hB.keep bx
  replace hY1 := hY1.keep bx
  replace hY2 := hY2.keep bx
  clear h bx
  go_wp2_with fail
  refine (refget_any C k e b HK _ (ht.keep b1)).mono ?_
  intro _ w7 h
  obtain ⟨A7, c7, rfl, hM2, bx⟩ := h.at_ HG
  replace b1 := b1.trans (bx.mono b1.size)
  replace ho := ho.keep bx
  replace hA := hA.keep bx
  replace hB := hB.keep bx
  replace hY1 := hY1.keep bx
  replace hY2 := hY2.keep bx
  replace hM1 := hM1.keep bx
  clear h bx
  go_wp2_with fail
  have hr7 := hr.keep b1
  have hq7 := hq.keep b1
  have ht7 := ht.keep b1
  refine (hide_any A1 n c1 l HN B m d p HM _ ho hq7).mono ?_
  intro _ w8 h
  obtain ⟨A8, c8, rfl, hX1, bh⟩ := h.at_ HH
  have hcX : (xx : Int) ≤ (c8 : Int) := by have := hX1.ri.len; have := HXL.out; omega
  have hcX2 : (c8 : Int) ≤ 9223372036854775807 := by have := hX1.ri.cap; omega
  replace hA := hA.keep bh
  replace hB := hB.keep bh
  replace hY1 := hY1.keep bh
  replace hY2 := hY2.keep bh
  replace hM1 := hM1.keep bh
  replace hM2 := hM2.keep bh
  clear h
  go_wp2_with fail
  refine (refhide_any A n c l HN B m d p HM _ (hr7.keep bh) (hq7.keep bh)).mono ?_
  intro _ w9 h
  obtain ⟨A9, c9, rfl, hX2, bx⟩ := h.at_ HH
  replace bh := bh.trans (bx.mono bh.size)
  replace hA := hA.keep bx
  replace hB := hB.keep bx
  replace hY1 := hY1.keep bx
  replace hY2 := hY2.keep bx
  replace hM1 := hM1.keep bx
  replace hM2 := hM2.keep bx
  replace hX1 := hX1.keep bx
  clear h bx
  go_wp2_with fail
  refine (text_any A1 n c1 l HN t T tq HT htq2 _ (ho.keep bh)).mono ?_
  intro _ w10 h
  obtain ⟨rfl, bx⟩ := h.at_ HV
  replace bh := bh.trans (bx.mono bh.size)
  replace hA := hA.keep bx
  replace hB := hB.keep bx
  replace hY1 := hY1.keep bx
  replace hY2 := hY2.keep bx
  replace hM1 := hM1.keep bx
  replace hM2 := hM2.keep bx
  replace hX1 := hX1.keep bx
  replace hX2 := hX2.keep bx
  clear h bx
  go_wp2_with fail
  refine (reftext_any A n c l HN t T tq HT htq2 _ (hr7.keep bh)).mono ?_
  intro _ w11 h
  obtain ⟨rfl, bx⟩ := h.at_ HV
  replace bh := bh.trans (bx.mono bh.size)
  replace hA := hA.keep bx
  replace hB := hB.keep bx
  replace hY1 := hY1.keep bx
  replace hY2 := hY2.keep bx
  replace hM1 := hM1.keep bx
  replace hM2 := hM2.keep bx
  replace hX1 := hX1.keep bx
  replace hX2 := hX2.keep bx
  clear h bx
  go_wp2_with fail
  refine (same_of true A2 nn c2 N HNL A3 nn c3 N HNL S1 _ hA hB).mono ?_
  rintro _ w12 ⟨rfl, bx⟩
  replace bh := bh.trans (bx.mono bh.size)
  replace hA := hA.keep bx
  replace hB := hB.keep bx
  replace hY1 := hY1.keep bx
  replace hY2 := hY2.keep bx
  replace hM1 := hM1.keep bx
  replace hM2 := hM2.keep bx
  replace hX1 := hX1.keep bx
  replace hX2 := hX2.keep bx
  clear bx
  have hs1 := rd_string HQ hY1
  have hs2 := rd_string HQ hY2
  go_wp2_with fail
  refine (same_of true A6 r c6 M HML A7 r c7 M HML S2 _ hM1 hM2).mono ?_
  rintro _ w13 ⟨rfl, bx⟩
  replace bh := bh.trans (bx.mono bh.size)
  replace hA := hA.keep bx
  replace hB := hB.keep bx
  replace hY1 := hY1.keep bx
  replace hY2 := hY2.keep bx
  replace hM1 := hM1.keep bx
  replace hM2 := hM2.keep bx
  replace hX1 := hX1.keep bx
  replace hX2 := hX2.keep bx
  clear bx hs1 hs2 hY1 hY2 hA hB hM1 hM2
  go_wp2_with fail
  refine (same_of true A8 xx c8 X HXL A9 xx c9 X HXL S3 _ hX1.ri hX2).mono ?_
  rintro _ w14 ⟨rfl, bx⟩
  replace bh := bh.trans (bx.mono bh.size)
  replace hX1 := hX1.keep bx
  clear bx hX2
  go_wp2_with fail
  refine (check_of z A1 n c1 l HN HZ _ (ho.keep bh)).mono ?_
  rintro _ w15 ⟨rfl, rfl⟩
  go_wp2_with fail
  refine (refcheck_of z A n c l HN HZ _ (hr7.keep bh)).mono ?_
  rintro _ w15 ⟨rfl, rfl⟩
  go_wp2
  go_loopw [35] (fun i wr => ∃ (j : Nat) (Q : List Int), j ≤ xx ∧ i = .int .i64 (j : Int) ∧ Hid (Q.length = xx) ∧ OwnI wr w7.heap.size 21 A8 c8 Q ∧ Below w7.heap.size w7 wr) (fun i _ => xx - (intOf i).toNat)
  case atStart => exact ⟨0, X, by omega, rfl, HXL, hX1, bh⟩
  case round =>
    obtain ⟨j, Q, hj, rfl, hQ, hown2, hb⟩ := hrel
    by_cases hlt : j < xx
    · have hlt2 : (j : Int) < (xx : Int) := by omega
      have hQ2 := hQ.out
      obtain ⟨g, rfl, hg, hc3, hf3, hs3⟩ := hown2.own_at (by omega)
      have hc4 := hc3 j (by omega)
      have hf4 := hf3 j
      have hs4 := hs3 j 7 (by omega) (by omega)
      generalize Q[j]'(by omega) = y0 at hc4
      clear hc3 hf3 hs3 hQ2
      go_wp2
      go_roundw
      case rel => exact ⟨j + 1, Q.set j 7, by omega, by go_num, hid (by rw [List.length_set]; exact hQ.out), hs4, hb.setCell (p := ⟨g, j, none⟩) hg _⟩
      case measure => simp [intOf]; omega
    · have hlt2 : ¬ (j : Int) < (xx : Int) := by omega
      go_wp2_with fail
      refine (same_of true A1 n c1 l HN A n c l HN S4 _ (ho.keep hb) (hr7.keep hb)).mono ?_
      rintro _ w16 ⟨rfl, bx⟩
      have hs9 := rd_string HK ((ht7.keep hb).keep bx)
      go_wp2
      go_ret
      exact ⟨rfl, b1.trans ((hb.trans (bx.mono hb.size)).mono b1.size)⟩

set_option maxRecDepth 100000 in
set_option maxHeartbeats 4000000 in
theorem rtell_walk (s : ByteArray) (A : Option Addr) (n c : Nat) (l : List Int) (B : Option Addr) (m d : Nat) (p : List Bool) (C : Option Addr) (k e : Nat) (b : List UInt8) (t : ByteArray) (w : World) (hr : Hid (l.length = n) ∧ Ri w A c l) (hq : Hid (p.length = m) ∧ Rb w B d p) (ht : Hid (b.length = k) ∧ Rd w C e b) :
    Calls Try.prog 4 #[.string s, .slice A n c, .slice B m d, .slice C k e, .string t] w fun e w' => e = .returned (.bool true) ∧ Below w.heap.size w w' := by
  obtain ⟨HN, hr⟩ := hr
  obtain ⟨HM, hq⟩ := hq
  obtain ⟨HK, ht⟩ := ht
  by_cases g0 : 2000 < s.size
  · have g0' : (2000 : Int) < (s.size : Int) := by omega
    go_enter Try.func4, Try.ntmps4
    go_wp2
    go_ret
    exact ⟨rfl, Below.refl _ _⟩
  have g0' : ¬ (2000 : Int) < (s.size : Int) := by omega
  by_cases g1 : 2000 < n
  · have g1' : (2000 : Int) < (n : Int) := by omega
    go_enter Try.func4, Try.ntmps4
    go_wp2
    go_ret
    exact ⟨rfl, Below.refl _ _⟩
  have g1' : ¬ (2000 : Int) < (n : Int) := by omega
  by_cases g2 : 2000 < m
  · have g2' : (2000 : Int) < (m : Int) := by omega
    go_enter Try.func4, Try.ntmps4
    go_wp2
    go_ret
    exact ⟨rfl, Below.refl _ _⟩
  have g2' : ¬ (2000 : Int) < (m : Int) := by omega
  by_cases g3 : 2000 < k
  · have g3' : (2000 : Int) < (k : Int) := by omega
    go_enter Try.func4, Try.ntmps4
    go_wp2
    go_ret
    exact ⟨rfl, Below.refl _ _⟩
  have g3' : ¬ (2000 : Int) < (k : Int) := by omega
  by_cases g4 : 100 < t.size
  · have g4' : (100 : Int) < (t.size : Int) := by omega
    go_enter Try.func4, Try.ntmps4
    go_wp2
    go_ret
    exact ⟨rfl, Below.refl _ _⟩
  have g4' : ¬ (100 : Int) < (t.size : Int) := by omega
  exact rtell_main s A n c l B m d p C k e b t w HN hr HM hq HK ht (by omega) (by omega) (by omega) (by omega) (by omega)

set_option maxRecDepth 100000 in
theorem rtell_lifted (os : Os) (started : os.Started) (H : Type) (enc : TypeId × Value → H) :
    ReturnsInHanded {} Try.checked os 4 .any (Rows.runesTellSpec.pre6 enc Try.prog Try.f4 Rows.runesTellRow.domain false) (Rows.runesTellSpec.post enc Try.prog Try.f4 false true false false) := by
  refine returnsInHanded_of_change (C := Try.checked) own started (by kernel_rfl) Try.func4
    (ChangeSpec.witness6 (enc := enc) (C := Try.checked) false ⟨#[], #[.string ⟨#[]⟩, .slice none 0 0, .slice none 0 0, .slice none 0 0, .string ⟨#[]⟩], []⟩ 8 (by kernel_rfl) (by kernel_rfl) (by kernel_rfl) (by kernel_rfl)) ?_
  intro W base args ds gs before hval0 hW _ _
  have hval : ∀ (j : Nat) t v, Try.f4.params[j]? = some t → args[j]? = some v → Value.okWide Try.prog W .any base t v := hval0
  have hW' := hW
  obtain ⟨p, q, hA0, hV, rfl, _, _⟩ := hW
  have hA : DataW.TrodAll enc Try.prog W 0 (fun _ => true) true Try.f4.params.toList args.toList ds p := hA0
  rw [Try.params4] at hA hval
  obtain ⟨v0, v1, v2, v3, v4, d0, d1, d2, d3, d4, p0, p1, p2, p3, p4, rfl, rfl, rfl, h0, h1, h2, h3, h4⟩ := trodAll_five hA
  obtain ⟨rfl, rfl⟩ := trodVars_none hV
  obtain ⟨s, rfl, _⟩ := open_text (hval 0 _ v0 rfl rfl) h0
  obtain ⟨A, n, c, l, rfl, hr⟩ := open_row (hval 1 _ v1 rfl rfl) h1
  obtain ⟨B, m, d, p, rfl, hq⟩ := open_bools (hval 2 _ v2 rfl rfl) h2
  obtain ⟨C, k, e, b, rfl, ht⟩ := open_bytes (hval 3 _ v3 rfl rfl) h3
  obtain ⟨t, rfl, _⟩ := open_text (hval 4 _ v4 rfl rfl) h4
  refine (rtell_walk s A n c l B m d p C k e b t W hr hq ht).mono fun e W' ⟨he, hg⟩ => ?_
  subst he
  exact ⟨_, rfl, law_post laidOut (by kernel_rfl) rfl Try.underlying4 rfl rfl hW' hg⟩

theorem rtell_holds : Rows.RunesTellSaid :=
  OpenClaim.holds_of_wide 4 Try.f4 rfl rfl rfl rfl rfl rfl rfl ⟨rfl, rfl, rfl, rfl, rfl⟩ rfl rfl rfl rfl rfl (by kernel_rfl) Try.func4 (by kernel_rfl)
    (of_decide_eq_true (by kernel_rfl)) (by unfold Func.isWrapper; rw [if_neg (of_decide_eq_false (by kernel_rfl))]; exact ⟨rfl, rfl⟩)
    (fun os started H enc _ => rtell_lifted os started H enc)
#print axioms rtell_holds
end Go.Proofs.Ytikcknngcdjnhaa
