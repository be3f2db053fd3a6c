/-
  THE STAGE'S THEOREM: what is hidden tells nothing of what was there: the statement RunesHidden, for every row, places and other runes. Conditions: none (of more than 2,000 numbers or places, of fewer other numbers than the row has, and of a row that may not be, the statement itself asks nothing but its examples).
-/
import Derived.Test.YtikcknngcdjnhaaRunK
namespace Go.Proofs.Ytikcknngcdjnhaa
open Go.ChangeShapes Go.WideShapes Go.ChangeAt Go.RowKit Go.Joins
set_option linter.unusedVariables false

theorem getD_at {α : Type} (l : List α) (x : α) {i : Nat} (h : i < l.length) : l.getD i x = l[i] := by simp [List.getD, h]
/-- The first j hidden places bear the other numbers. -/
def swap (l : List Int) (p : List Bool) (o : List Int) (j : Nat) : List Int := l.mapIdx fun i n => if i < j ∧ p.getD i false = true then o.getD i 0 else n
theorem swap_length (l : List Int) (p : List Bool) (o : List Int) (j : Nat) : (swap l p o j).length = l.length := by simp [swap]
theorem swap_zero (l : List Int) (p : List Bool) (o : List Int) : swap l p o 0 = l := by
  apply List.ext_getElem
  · simp [swap]
  · intro i h1 h2
    simp [swap]
theorem swap_keep {l : List Int} {p : List Bool} (o : List Int) {j : Nat} (h : j < p.length) (hp : p[j] = false) : swap l p o (j + 1) = swap l p o j := by
  have e : p.getD j false = false := by rw [getD_at _ _ h, hp]
  apply List.ext_getElem
  · simp [swap]
  · intro i h1 h2
    simp only [swap, List.getElem_mapIdx]
    by_cases hi : i = j
    · subst hi
      rw [if_neg (by rw [e]; simp), if_neg (by rw [e]; simp)]
    · have : i < j + 1 ↔ i < j := by omega
      simp only [this]
theorem swap_set {l : List Int} {p : List Bool} {o : List Int} {j : Nat} (h : j < p.length) (hp : p[j] = true) (ho : j < o.length) : swap l p o (j + 1) = (swap l p o j).set j o[j] := by
  have e : p.getD j false = true := by rw [getD_at _ _ h, hp]
  have eo : o.getD j 0 = o[j] := getD_at _ _ ho
  apply List.ext_getElem
  · simp [swap]
  · intro i h1 h2
    rw [List.getElem_set]
    by_cases hi : j = i
    · subst hi
      rw [if_pos rfl]
      simp only [swap, List.getElem_mapIdx]
      rw [if_pos ⟨by omega, e⟩, eo]
    · rw [if_neg hi]
      simp only [swap, List.getElem_mapIdx]
      have : i < j + 1 ↔ i < j := by omega
      simp only [this]
theorem hid2_swap {l : List Int} {p : List Bool} (o : List Int) (h : p.length = l.length) : hid2 (swap l p o l.length) p = hid2 l p := by
  apply List.ext_getElem
  · simp [hid2, swap]
  · intro i h1 h2
    have hi : i < p.length := by simp [hid2] at h2; omega
    simp only [hid2, List.getElem_zipWith, swap, List.getElem_mapIdx]
    by_cases hp : p[i] = true
    · rw [if_pos hp, if_pos hp]
    · rw [if_neg hp, if_neg hp, if_neg (by rw [getD_at _ _ hi]; exact fun k => hp k.2)]
theorem chk_hid2 {l : List Int} {p : List Bool} (h : p.length = l.length) (hc : chk l = 0) : chk (hid2 l p) = 0 := by
  obtain ⟨h1, h2⟩ := chk_zero.1 hc
  refine chk_zero.2 ⟨by rw [hid2_length _ _ h]; exact h1, List.all_eq_true.2 fun x hx => ?_⟩
  obtain ⟨i, hi, rfl⟩ := List.getElem_of_mem hx
  simp only [hid2, List.getElem_zipWith]
  split
  · rfl
  · exact List.all_eq_true.1 h2 _ (List.getElem_mem _)
theorem hid2_at {l : List Int} {p : List Bool} (h : p.length = l.length) {j : Nat} (hj : j < l.length) (hk : j < (hid2 l p).length) : (hid2 l p)[j] = if p[j]'(by omega) = true then -1 else l[j] := by
  simp [hid2, List.getElem_zipWith]

set_option maxRecDepth 100000 in
set_option maxHeartbeats 4000000 in
theorem rhidden_main (A : Option Addr) (n c : Nat) (l : List Int) (B : Option Addr) (d : Nat) (p : List Bool) (C : Option Addr) (k e : Nat) (o : List Int) (w : World) (HN : Hid (l.length = n)) (hr : Ri w A c l) (HM : Hid (p.length = n)) (hq : Rb w B d p) (HK : Hid (o.length = k)) (ht : Ri w C e o)
    (h64 : n ≤ 64) (hnk : n ≤ k) (HZ : Hid (chk l = 0)) :
    Calls Try.prog 6 #[.slice A n c, .slice B n d, .slice C k e] w fun e w' => e = .returned (.bool true) ∧ Below w.heap.size w w' := by
  obtain ⟨i0, hi0, hz0, hz1, hz2⟩ := info_parts info_i32
  have hlen : p.length = l.length := by rw [HM.out, HN.out]
  have HL := hid hlen
  obtain ⟨X, hX⟩ : ∃ X, hid2 l p = X := ⟨_, rfl⟩
  have HX := hid hX
  have HE := hid (show hidV l p = X ∧ hidE l p = 0 ∧ X.length = n by rw [← hX]; exact ⟨(hidE_ok HZ.out hlen).2, (hidE_ok HZ.out hlen).1, by rw [hid2_length _ _ hlen, HN.out]⟩)
  have HC := hid (show chk X = 0 by rw [← hX]; exact chk_hid2 hlen HZ.out)
  have h1' : ¬ (2000 : Int) < (n : Int) := by omega
  have h3' : ¬ (k : Int) < (n : Int) := by omega
  have hnn : ((n : Int) != (n : Int)) = false := by simp
  have hcA : (n : Int) ≤ (c : Int) := by have := hr.len; have := HN.out; omega
  have hcA2 : (c : Int) ≤ 9223372036854775807 := by have := hr.cap; omega
  have hcB : (n : Int) ≤ (d : Int) := by have := hq.len; have := HM.out; omega
  have hcB2 : (d : Int) ≤ 9223372036854775807 := by have := hq.cap; omega
  have hcC : (k : Int) ≤ (e : Int) := by have := ht.len; have := HK.out; omega
  have hcC2 : (e : Int) ≤ 9223372036854775807 := by have := ht.cap; omega
  clear hlen hX
  go_enter Try.func6, Try.ntmps6
  go_wp2_with fail
  refine (alive_any _).mono ?_
  rintro _ w1 ⟨rfl, b1⟩
  go_wp2_with fail
  refine (check_of 0 A n c l HN HZ _ (hr.keep b1)).mono ?_
  rintro _ w2 ⟨rfl, rfl⟩
  go_wp2_with fail
  refine (hide_any A n c l HN B n d p HM _ (hr.keep b1) (hq.keep b1)).mono ?_
  intro _ w2 h
  obtain ⟨A2, c2, rfl, hx0, b2⟩ := h.at_ HE
  have hx := hx0.ri
  have hcX : (n : Int) ≤ (c2 : Int) := by have := hx.len; have := HE.out.2.2; omega
  have hcX2 : (c2 : Int) ≤ 9223372036854775807 := by have := hx.cap; omega
  replace b1 := b1.trans (b2.mono b1.size)
  have hr2 := hr.keep b1
  have hq2 := hq.keep b1
  have ht2 := ht.keep b1
  clear h hx0 b2
  go_wp2_with (at_builtin; refine wpList_append_i rfl (.const (.slice none 0 0)) (.tmp 64) _ rfl w2.heap.size 21 Try.underlying22 hi0 hz0 hz1 hz2 none 0 0 [] (hid rfl) rfl (OwnI.nil _ _ _) A n c l HN rfl hr2 (by omega) (Nat.le_refl _) ?_; intro A3 c3 w3 hown b3)
  rw [List.nil_append] at hown
  go_loopw [11] (fun i wr => ∃ j : Nat, j ≤ n ∧ i = .int .i64 (j : Int) ∧ OwnI wr w2.heap.size 21 A3 c3 (swap l p o j) ∧ Below w2.heap.size w2 wr) (fun i _ => n - (intOf i).toNat)
  case atStart => exact ⟨0, by omega, rfl, by rw [swap_zero]; exact hown, b3⟩
  case round =>
    obtain ⟨j, hj, rfl, hown2, hb⟩ := hrel
    by_cases hlt : j < n
    · have hl := HN.out
      have hl2 := HM.out
      have hl3 := HK.out
      have hl4 := HE.out.2.2
      have hxj : X[j]'(by omega) = if p[j]'(by omega) = true then -1 else l[j]'(by omega) := by
        have e := HX.out
        subst e
        exact hid2_at HL.out (by omega) (by omega)
      have hk := swap_keep (l := l) (p := p) o (j := j) (by omega)
      have hs := swap_set (l := l) (p := p) (o := o) (j := j) (by omega)
      obtain ⟨bA, oA, rfl, cA⟩ := hr2.at_ (by omega)
      obtain ⟨bB, oB, rfl, cB⟩ := hq2.at_ (by omega)
      obtain ⟨bC, oC, rfl, cC⟩ := ht2.at_ (by omega)
      obtain ⟨bX, oX, rfl, cX⟩ := hx.at_ (by omega)
      obtain ⟨g, rfl, hg, hc3, hf3, hs3⟩ := hown2.own_at (by rw [swap_length]; omega)
      have kA := cA j (by omega)
      have kB := cB j (by omega)
      have kC := cC j (by omega)
      have kX := cX j (by omega)
      have hc4 := hc3 j (by rw [swap_length]; omega)
      have hf4 := hf3 j
      have hu := ht2.in32.at_ (j := j) (by omega)
      have hs4 := hs3 j (o[j]'(by omega)) hu.1 hu.2
      have hs5 := fun h => hs h (by omega)
      have hb4 := hb.setCell (p := ⟨g, j, none⟩) hg (.int .i32 (o[j]'(by omega)))
      generalize l[j]'(by omega) = v at kA hxj
      generalize p[j]'(by omega) = y at kB hxj hk hs5
      generalize o[j]'(by omega) = u at kC hs4 hs5 hu hb4
      generalize X[j]'(by omega) = x at kX hxj
      generalize (swap l p o j)[j]'(by rw [swap_length]; omega) = q at hc4
      have hlt2 : (j : Int) < (n : Int) := by omega
      have hltC : (j : Int) < (k : Int) := by omega
      have hltC2 : (j : Int) < (e : Int) := by omega
      clear cA cB cC cX hc3 hf3 hs3 hs hl hl2 hl3 hl4
      cases y
      · have hx1 : x = v := hxj
        have HS := hid (hk rfl)
        subst hx1
        have kB1 := keep hb kB
        have kA2 := Past.all (keep hb kA)
        have kB2 := Past.all (keep hb kB)
        have kX2 := Past.all (keep hb kX)
        clear hk hs5 hxj hs4 hu hb4 kA kB kC kX
        by_cases hv : x = -1
        · subst hv
          go_wp2_with fail
          refine wp_region_past (by kernel_rfl) (by kernel_rfl) ?_
          repeat (go_big_quiet_step (fail))
          refine wpQuiet_nil ?_
          rintro w7 ⟨⟨_, hx7⟩, rfl⟩
          go_wp2
          go_roundw
          case rel => exact ⟨j + 1, by omega, by go_num, by rw [HS.out]; exact hown2.keep hx7, hb.trans (hx7.mono hb.size)⟩
          case measure => simp [intOf]; omega
        · have hv1 : (x == -1) = false := by simpa using hv
          have hv2 : (x != -1) = true := by simpa using hv
          clear hv
          go_wp2_with fail
          refine wp_region_past (by kernel_rfl) (by kernel_rfl) ?_
          repeat (go_big_quiet_step (fail))
          refine wpQuiet_nil ?_
          rintro w7 ⟨⟨_, hx7⟩, rfl⟩
          go_wp2
          go_roundw
          case rel => exact ⟨j + 1, by omega, by go_num, by rw [HS.out]; exact hown2.keep hx7, hb.trans (hx7.mono hb.size)⟩
          case measure => simp [intOf]; omega
      · have hx1 : x = -1 := hxj
        have HS := hid (hs5 rfl)
        subst hx1
        have kB1 := keep hb kB
        have kC1 := keep hb kC
        have kB2 := Past.all (keep hb4 kB)
        have kX2 := Past.all (keep hb4 kX)
        clear hk hs5 hxj hu kA kB kC kX
        go_wp2_with fail
        refine wp_region_past (by kernel_rfl) (by kernel_rfl) ?_
        repeat (go_big_quiet_step (fail))
        refine wpQuiet_nil ?_
        rintro w7 ⟨⟨_, hx7⟩, rfl⟩
        go_wp2
        go_roundw
        case rel => exact ⟨j + 1, by omega, by go_num, by rw [HS.out]; exact hs4.keep hx7, hb4.trans (hx7.mono hb4.size)⟩
        case measure => simp [intOf]; omega
    · have hlt2 : ¬ (j : Int) < (n : Int) := by omega
      have ej : j = l.length := by rw [HN.out]; omega
      obtain ⟨S, hS⟩ : ∃ S, swap l p o j = S := ⟨_, rfl⟩
      have hX2 : hid2 S p = X := by rw [← hS, ej, hid2_swap o HL.out, HX.out]
      have hSl : S.length = l.length := by rw [← hS, swap_length]
      have HSL := hid (show S.length = n by rw [hSl, HN.out])
      rw [hS] at hown2
      have ri3 := hown2.ri
      obtain ⟨z, hz⟩ : ∃ z, chk S = z := ⟨_, rfl⟩
      have HZ2 := hid hz
      have bw := b1.trans (hb.mono b1.size)
      by_cases hzz : z = 0
      · subst hzz
        have hpl : p.length = S.length := by rw [hSl]; exact HL.out
        have HE2 := hid (show hidV S p = X ∧ hidE S p = 0 ∧ X.length = n from ⟨by rw [(hidE_ok hz hpl).2, hX2], (hidE_ok hz hpl).1, HE.out.2.2⟩)
        have HXL := hid HE.out.2.2
        obtain ⟨Y, hY⟩ : ∃ Y, putV X = Y := ⟨_, rfl⟩
        obtain ⟨q, hq'⟩ : ∃ q, Y.length = q := ⟨_, rfl⟩
        have HP := hid (show putV X = Y ∧ chk X = 0 ∧ Y.length = q from ⟨hY, HC.out, hq'⟩)
        have HQ := hid hq'
        have HSS := hid (sameI_self X)
        have hx3 := hx.keep hb
        clear hz ej hX2 hSl hS hpl hY hq' hown hown2 b3
        go_wp2_with fail
        refine (check_of 0 A3 n c3 S HSL HZ2 _ ri3).mono ?_
        rintro _ w4 ⟨rfl, rfl⟩
        go_wp2_with fail
        refine (hide_any A3 n c3 S HSL B n d p HM _ ri3 (hq.keep bw)).mono ?_
        intro _ w5 h
        obtain ⟨A5, c5, rfl, hy0, b5⟩ := h.at_ HE2
        have hy := hy0.ri
        replace hx3 := hx3.keep b5
        replace bw := bw.trans (b5.mono bw.size)
        clear h hy0 b5
        go_wp2_with fail
        refine (put_any A2 n c2 X HXL _ hx3).mono ?_
        intro _ w6 h
        obtain ⟨A6, c6, rfl, hr6, b6⟩ := h.at_ HP
        replace hx3 := hx3.keep b6
        replace hy := hy.keep b6
        replace bw := bw.trans (b6.mono bw.size)
        clear h b6
        go_wp2_with fail
        refine (put_any A5 n c5 X HXL _ hy).mono ?_
        intro _ w7 h
        obtain ⟨A7, c7, rfl, hr7, b7⟩ := h.at_ HP
        replace hx3 := hx3.keep b7
        replace hy := hy.keep b7
        replace hr6 := hr6.keep b7
        replace bw := bw.trans (b7.mono bw.size)
        clear h b7
        go_wp2_with fail
        refine (same_of true A2 n c2 X HXL A5 n c5 X HXL HSS _ hx3 hy).mono ?_
        rintro _ w8 ⟨rfl, b8⟩
        have hs6 := rd_string HQ (hr6.keep b8)
        have hs7 := rd_string HQ (hr7.keep b8)
        go_wp2
        go_ret
        exact ⟨rfl, bw.trans (b8.mono bw.size)⟩
      · have hz2' : (z != 0) = true := by simpa using hzz
        clear hz ej hX2 hSl hS hzz
        go_wp2_with fail
        refine (check_of z A3 n c3 S HSL HZ2 _ ri3).mono ?_
        rintro _ w4 ⟨rfl, rfl⟩
        go_wp2
        go_ret
        exact ⟨rfl, bw⟩

set_option maxRecDepth 100000 in
set_option maxHeartbeats 4000000 in
theorem rhidden_walk (A : Option Addr) (n c : Nat) (l : List Int) (B : Option Addr) (m d : Nat) (p : List Bool) (C : Option Addr) (k e : Nat) (o : List Int) (w : World) (hr : Hid (l.length = n) ∧ Ri w A c l) (hq : Hid (p.length = m) ∧ Rb w B d p) (ht : Hid (o.length = k) ∧ Ri w C e o) :
    Calls Try.prog 6 #[.slice A n c, .slice B m d, .slice C k e] w fun e w' => e = .returned (.bool true) ∧ Below w.heap.size w w' := by
  obtain ⟨HN, hr⟩ := hr
  obtain ⟨HM, hq⟩ := hq
  obtain ⟨HK, ht⟩ := ht
  obtain ⟨i0, hi0, hz0, hz1, hz2⟩ := info_parts info_i32
  by_cases h1 : 2000 < n
  · have h1' : (2000 : Int) < (n : Int) := by omega
    go_enter Try.func6, Try.ntmps6
    go_wp2_with fail
    refine (alive_any _).mono ?_
    rintro e w1 ⟨rfl, b1⟩
    go_wp2
    go_ret
    exact ⟨rfl, b1⟩
  have h1' : ¬ (2000 : Int) < (n : Int) := by omega
  by_cases h2 : 2000 < m
  · have h2' : (2000 : Int) < (m : Int) := by omega
    go_enter Try.func6, Try.ntmps6
    go_wp2_with fail
    refine (alive_any _).mono ?_
    rintro e w1 ⟨rfl, b1⟩
    go_wp2
    go_ret
    exact ⟨rfl, b1⟩
  have h2' : ¬ (2000 : Int) < (m : Int) := by omega
  by_cases h3 : k < n
  · have h3' : (k : Int) < (n : Int) := by omega
    go_enter Try.func6, Try.ntmps6
    go_wp2_with fail
    refine (alive_any _).mono ?_
    rintro e w1 ⟨rfl, b1⟩
    go_wp2
    go_ret
    exact ⟨rfl, b1⟩
  have h3' : ¬ (k : Int) < (n : Int) := by omega
  obtain ⟨z, hz⟩ : ∃ z, chk l = z := ⟨_, rfl⟩
  have HZ := hid hz
  by_cases hz0' : z = 0
  case neg =>
    have hz2' : (z != 0) = true := by simpa using hz0'
    clear hz hz0'
    go_enter Try.func6, Try.ntmps6
    go_wp2_with fail
    refine (alive_any _).mono ?_
    rintro e w1 ⟨rfl, b1⟩
    go_wp2_with fail
    refine (check_of z A n c l HN HZ _ (hr.keep b1)).mono ?_
    rintro e w2 ⟨rfl, rfl⟩
    go_wp2
    go_ret
    exact ⟨rfl, b1⟩
  subst hz0'
  have h64 : n ≤ 64 := by have := (chk_zero.1 hz).1; rw [HN.out] at this; exact this
  by_cases hmn : m = n
  case neg =>
    have H := hid (hidE_arg (p := p) hz (by rw [HM.out, HN.out]; exact hmn))
    have HE := hid (show hidV l p = [] ∧ hidE l p = 2 ∧ ([] : List Int).length = 0 from ⟨H.out.2, H.out.1, rfl⟩)
    have hmn2 : ((m : Int) != (n : Int)) = true := by simp; omega
    clear hz hmn
    go_enter Try.func6, Try.ntmps6
    go_wp2_with fail
    refine (alive_any _).mono ?_
    rintro e w1 ⟨rfl, b1⟩
    go_wp2_with fail
    refine (check_of 0 A n c l HN HZ _ (hr.keep b1)).mono ?_
    rintro e w2 ⟨rfl, rfl⟩
    go_wp2_with fail
    refine (hide_any A n c l HN B m d p HM _ (hr.keep b1) (hq.keep b1)).mono ?_
    intro e w2 h
    obtain ⟨A2, c2, rfl, hr2, b2⟩ := h.at_ HE
    clear h
    go_wp2
    go_ret
    exact ⟨rfl, b1.trans (b2.mono b1.size)⟩
  subst hmn
  exact rhidden_main A m c l B d p C k e o w HN hr HM hq HK ht h64 (by omega) HZ

set_option maxRecDepth 100000 in
theorem rhidden_lifted (os : Os) (started : os.Started) (H : Type) (enc : TypeId × Value → H) :
    ReturnsInHanded {} Try.checked os 6 .any (Rows.runesHiddenSpec.pre6 enc Try.prog Try.f6 Rows.runesHiddenRow.domain false) (Rows.runesHiddenSpec.post enc Try.prog Try.f6 false true false false) := by
  refine returnsInHanded_of_change (C := Try.checked) own started (by kernel_rfl) Try.func6
    (ChangeSpec.witness6 (enc := enc) (C := Try.checked) false ⟨#[], #[.slice none 0 0, .slice none 0 0, .slice none 0 0], []⟩ 8 (by kernel_rfl) (by kernel_rfl) (by kernel_rfl) (by kernel_rfl)) ?_
  intro W base args ds gs before hval0 hW _ _
  have hval : ∀ (j : Nat) t v, Try.f6.params[j]? = some t → args[j]? = some v → Value.okWide Try.prog W .any base t v := hval0
  have hW' := hW
  obtain ⟨p, q, hA0, hV, rfl, _, _⟩ := hW
  have hA : DataW.TrodAll enc Try.prog W 0 (fun _ => true) true Try.f6.params.toList args.toList ds p := hA0
  rw [Try.params6] at hA hval
  obtain ⟨v0, v1, v2, d0, d1, d2, p0, p1, p2, rfl, rfl, rfl, h0, h1, h2⟩ := trodAll_three hA
  obtain ⟨rfl, rfl⟩ := trodVars_none hV
  obtain ⟨A, n, c, l, rfl, hr⟩ := open_row (hval 0 _ v0 rfl rfl) h0
  obtain ⟨B, m, d, p, rfl, hq⟩ := open_bools (hval 1 _ v1 rfl rfl) h1
  obtain ⟨C, k, e, o, rfl, ht⟩ := open_row (hval 2 _ v2 rfl rfl) h2
  refine (rhidden_walk A n c l B m d p C k e o W hr hq ht).mono fun e W' ⟨he, hg⟩ => ?_
  subst he
  exact ⟨_, rfl, law_post laidOut (by kernel_rfl) rfl Try.underlying4 rfl rfl hW' hg⟩

theorem rhidden_holds : Rows.RunesHiddenSaid :=
  OpenClaim.holds_of_wide 6 Try.f6 rfl rfl rfl rfl rfl rfl rfl ⟨rfl, rfl, rfl, rfl, rfl⟩ rfl rfl rfl rfl rfl (by kernel_rfl) Try.func6 (by kernel_rfl)
    (of_decide_eq_true (by kernel_rfl)) (by unfold Func.isWrapper; rw [if_neg (of_decide_eq_false (by kernel_rfl))]; exact ⟨rfl, rfl⟩)
    (fun os started H enc _ => rhidden_lifted os started H enc)
#print axioms rhidden_holds
end Go.Proofs.Ytikcknngcdjnhaa
