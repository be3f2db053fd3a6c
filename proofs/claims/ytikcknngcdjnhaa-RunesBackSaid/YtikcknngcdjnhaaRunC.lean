/-
  What is put is got, a row has four bytes for each number, and a text's runes have that text: the statement RunesBack, for every row, text and bytes. Conditions: none (of more than 2,000 of anything the statement itself asks nothing but its examples).
-/
import Derived.Test.YtikcknngcdjnhaaRunK
namespace Go.Proofs.Ytikcknngcdjnhaa
open Go.ChangeShapes Go.WideShapes Go.ChangeAt Go.RowKit Go.Joins
set_option linter.unusedVariables false

set_option maxRecDepth 100000 in
set_option maxHeartbeats 4000000 in
theorem rback_main (A : Option Addr) (n c : Nat) (l : List Int) (s : ByteArray) (C : Option Addr) (k e : Nat) (b : List UInt8) (w : World) (HN : Hid (l.length = n)) (hr : Ri w A c l) (HK : Hid (b.length = k)) (ht : Rd w C e b)
    (h1 : n ≤ 2000) (h2 : s.size ≤ 2000) (h3 : k ≤ 2000) :
    Calls Try.prog 5 #[.slice A n c, .string s, .slice C k e] w fun e w' => e = .returned (.bool true) ∧ Below w.heap.size w w' := by
  have h1' : ¬ (2000 : Int) < (n : Int) := by omega
  have h2' : ¬ (2000 : Int) < (s.size : Int) := by omega
  have h3' : ¬ (2000 : Int) < (k : Int) := by omega
  obtain ⟨L, hL⟩ : ∃ L, s.data.toList = L := ⟨_, rfl⟩
  have hsL : (⟨L.toArray⟩ : ByteArray) = s := by rw [← hL]
  have HS := hid hL
  have HSL := hid hsL
  obtain ⟨z, hz⟩ : ∃ z, chk l = z := ⟨_, rfl⟩
  obtain ⟨u, hu⟩ : ∃ u, getE b = u := ⟨_, rfl⟩
  obtain ⟨M, hM⟩ : ∃ M, getV b = M := ⟨_, rfl⟩
  obtain ⟨r, hr'⟩ : ∃ r, M.length = r := ⟨_, rfl⟩
  obtain ⟨v, hv⟩ : ∃ v, ofE L = v := ⟨_, rfl⟩
  obtain ⟨N, hN⟩ : ∃ N, ofV L = N := ⟨_, rfl⟩
  obtain ⟨t, ht'⟩ : ∃ t, N.length = t := ⟨_, rfl⟩
  have HG := hid (show getV b = M ∧ getE b = u ∧ M.length = r from ⟨hM, hu, hr'⟩)
  have HO := hid (show ofV L = N ∧ ofE L = v ∧ N.length = t from ⟨hN, hv, ht'⟩)
  have HRL := hid hr'
  have HTL := hid ht'
  have HZ := hid hz
  have HSS := hid (sameI_self l)
  clear hL hsL hu hM hr' hv hN ht' hz
  go_enter Try.func5, Try.ntmps5
  go_wp2_with fail
  refine (alive_any _).mono ?_
  rintro _ w1 ⟨rfl, b1⟩
  go_wp2_with fail
  refine (put_any A n c l HN _ (hr.keep b1)).mono ?_
  intro _ w2 h
  by_cases hz0 : z = 0
  focus
    subst hz0
    have g := get_put HZ.out
    obtain ⟨Y, hY⟩ : ∃ Y, putV l = Y := ⟨_, rfl⟩
    obtain ⟨q, hq'⟩ : ∃ q, Y.length = q := ⟨_, rfl⟩
    rw [hY] at g
    have HP := hid (show putV l = Y ∧ chk l = 0 ∧ Y.length = q from ⟨hY, HZ.out, hq'⟩)
    have HQ := hid hq'
    have HG2 := hid (show getV Y = l ∧ getE Y = 0 ∧ l.length = n from ⟨g.2.1, g.1, HN.out⟩)
    have hq4 : ((q : Int) != 4 * (n : Int)) = false := by
      have e1 := g.2.2
      have e2 := HN.out
      simp
      omega
    obtain ⟨A2, c2, rfl, hy, b2⟩ := h.at_ HP
    replace b1 := b1.trans (b2.mono b1.size)
    clear h b2 g hY hq'
    go_wp2_with fail
    refine (get_any A2 q c2 Y HQ _ hy).mono ?_
    intro _ w3 h
    obtain ⟨A3, c3, rfl, hm, b3⟩ := h.at_ HG2
    replace b1 := b1.trans (b3.mono b1.size)
    clear h b3
    go_wp2_with fail
    refine (same_of true A3 n c3 l HN A n c l HN HSS _ hm (hr.keep b1)).mono ?_
    rintro _ w4 ⟨rfl, b4⟩
    replace b1 := b1.trans (b4.mono b1.size)
    clear b4
    go_wp2_with fail
  rotate_left
  focus
    have HP := hid (show putV l = [] ∧ chk l = z ∧ ([] : List UInt8).length = 0 from ⟨by rw [putV, if_neg (by rw [HZ.out]; exact hz0)], HZ.out, rfl⟩)
    have hz1 : (z == 0) = false := by simpa using hz0
    obtain ⟨A2, c2, rfl, hy, b2⟩ := h.at_ HP
    replace b1 := b1.trans (b2.mono b1.size)
    clear h b2 hz0
    go_wp2_with fail
  all_goals
    refine (get_any C k e b HK _ (ht.keep b1)).mono ?_
    intro _ w5 h
    by_cases hu0 : u = 0
    focus
      subst hu0
      obtain ⟨A5, c5, rfl, hM5, b5⟩ := h.at_ HG
      replace b1 := b1.trans (b5.mono b1.size)
      have HP2 := hid (show putV M = b ∧ chk M = 0 ∧ b.length = k by
        have g := put_get HG.out.2.1
        rw [HG.out.1] at g
        exact ⟨g.2, g.1, HK.out⟩)
      clear h b5
      go_wp2_with fail
      refine (put_any A5 r c5 M HRL _ hM5).mono ?_
      intro _ w6 h
      obtain ⟨A6, c6, rfl, hb6, b6⟩ := h.at_ HP2
      replace b1 := b1.trans (b6.mono b1.size)
      clear h b6
      have hs1 := rd_string HK hb6
      have hs2 := rd_string HK (ht.keep b1)
      go_wp2_with fail
    rotate_left
    focus
      have hu1 : (u == 0) = false := by simpa using hu0
      obtain ⟨A5, c5, rfl, hM5, b5⟩ := h.at_ HG
      replace b1 := b1.trans (b5.mono b1.size)
      clear h b5 hu0
      go_wp2_with fail
  all_goals
    refine (of_any s L HS (by omega) _).mono ?_
    intro _ w7 h
    by_cases hv0 : v = 0
    · subst hv0
      obtain ⟨A7, c7, rfl, hN7, b7⟩ := h.at_ HO
      replace b1 := b1.trans (b7.mono b1.size)
      have HT2 := hid (show textV N [63] = L ∧ chk N = 0 by
        have g := of_back HO.out.2.1 [63]
        rw [HO.out.1] at g
        exact ⟨g.2, g.1⟩)
      have HC := hid HT2.out.2
      clear h b7
      go_wp2_with fail
      refine (text_any A7 t c7 N HTL _ [63] 1 (hid ⟨rfl, rfl⟩) (by omega) _ hN7).mono ?_
      intro _ w8 h
      obtain ⟨rfl, b8⟩ := h.at_ HT2
      replace b1 := b1.trans (b8.mono b1.size)
      replace hN7 := hN7.keep b8
      clear h b8
      rw [HSL.out]
      go_wp2_with fail
      refine (check_of 0 A7 t c7 N HTL HC _ hN7).mono ?_
      rintro _ w9 ⟨rfl, rfl⟩
      go_wp2
      go_ret
      exact ⟨rfl, b1⟩
    · have hv1 : (v != 0) = true := by simpa using hv0
      obtain rfl : t = 0 := by
        have e1 := HO.out
        have e2 := of_bad (l := L) (by rw [e1.2.1]; exact hv0)
        rw [← e1.2.2, ← e1.1, e2]
        rfl
      obtain ⟨A7, c7, rfl, hN7, b7⟩ := h.at_ HO
      replace b1 := b1.trans (b7.mono b1.size)
      clear h b7 hv0
      go_wp2
      go_ret
      exact ⟨rfl, b1⟩

set_option maxRecDepth 100000 in
set_option maxHeartbeats 2000000 in
theorem rback_walk (A : Option Addr) (n c : Nat) (l : List Int) (s : ByteArray) (C : Option Addr) (k e : Nat) (b : List UInt8) (w : World) (hr : Hid (l.length = n) ∧ Ri w A c l) (ht : Hid (b.length = k) ∧ Rd w C e b) :
    Calls Try.prog 5 #[.slice A n c, .string s, .slice C k e] w fun e w' => e = .returned (.bool true) ∧ Below w.heap.size w w' := by
  obtain ⟨HN, hr⟩ := hr
  obtain ⟨HK, ht⟩ := ht
  by_cases h1 : 2000 < n
  · have h1' : (2000 : Int) < (n : Int) := by omega
    go_enter Try.func5, Try.ntmps5
    go_wp2_with fail
    refine (alive_any _).mono ?_
    rintro e w1 ⟨rfl, b1⟩
    go_wp2
    go_ret
    exact ⟨rfl, b1⟩
  have h1' : ¬ (2000 : Int) < (n : Int) := by omega
  by_cases h2 : 2000 < s.size
  · have h2' : (2000 : Int) < (s.size : Int) := by omega
    go_enter Try.func5, Try.ntmps5
    go_wp2_with fail
    refine (alive_any _).mono ?_
    rintro e w1 ⟨rfl, b1⟩
    go_wp2
    go_ret
    exact ⟨rfl, b1⟩
  have h2' : ¬ (2000 : Int) < (s.size : Int) := by omega
  by_cases h3 : 2000 < k
  · have h3' : (2000 : Int) < (k : Int) := by omega
    go_enter Try.func5, Try.ntmps5
    go_wp2_with fail
    refine (alive_any _).mono ?_
    rintro e w1 ⟨rfl, b1⟩
    go_wp2
    go_ret
    exact ⟨rfl, b1⟩
  exact rback_main A n c l s C k e b w HN hr HK ht (by omega) (by omega) (by omega)

set_option maxRecDepth 100000 in
theorem rback_lifted (os : Os) (started : os.Started) (H : Type) (enc : TypeId × Value → H) :
    ReturnsInHanded {} Try.checked os 5 .any (Rows.runesBackSpec.pre6 enc Try.prog Try.f5 Rows.runesBackRow.domain false) (Rows.runesBackSpec.post enc Try.prog Try.f5 false true false false) := by
  refine returnsInHanded_of_change (C := Try.checked) own started (by kernel_rfl) Try.func5
    (ChangeSpec.witness6 (enc := enc) (C := Try.checked) false ⟨#[], #[.slice none 0 0, .string ⟨#[]⟩, .slice none 0 0], []⟩ 8 (by kernel_rfl) (by kernel_rfl) (by kernel_rfl) (by kernel_rfl)) ?_
  intro W base args ds gs before hval0 hW _ _
  have hval : ∀ (j : Nat) t v, Try.f5.params[j]? = some t → args[j]? = some v → Value.okWide Try.prog W .any base t v := hval0
  have hW' := hW
  obtain ⟨p, q, hA0, hV, rfl, _, _⟩ := hW
  have hA : DataW.TrodAll enc Try.prog W 0 (fun _ => true) true Try.f5.params.toList args.toList ds p := hA0
  rw [Try.params5] at hA hval
  obtain ⟨v0, v1, v2, d0, d1, d2, p0, p1, p2, rfl, rfl, rfl, h0, h1, h2⟩ := trodAll_three hA
  obtain ⟨rfl, rfl⟩ := trodVars_none hV
  obtain ⟨A, n, c, l, rfl, hr⟩ := open_row (hval 0 _ v0 rfl rfl) h0
  obtain ⟨s, rfl, _⟩ := open_text (hval 1 _ v1 rfl rfl) h1
  obtain ⟨C, k, e, b, rfl, ht⟩ := open_bytes (hval 2 _ v2 rfl rfl) h2
  refine (rback_walk A n c l s C k e b W hr ht).mono fun e W' ⟨he, hg⟩ => ?_
  subst he
  exact ⟨_, rfl, law_post laidOut (by kernel_rfl) rfl Try.underlying4 rfl rfl hW' hg⟩

theorem rback_holds : Rows.RunesBackSaid :=
  OpenClaim.holds_of_wide 5 Try.f5 rfl rfl rfl rfl rfl rfl rfl ⟨rfl, rfl, rfl, rfl, rfl⟩ rfl rfl rfl rfl rfl (by kernel_rfl) Try.func5 (by kernel_rfl)
    (of_decide_eq_true (by kernel_rfl)) (by unfold Func.isWrapper; rw [if_neg (of_decide_eq_false (by kernel_rfl))]; exact ⟨rfl, rfl⟩)
    (fun os started H enc _ => rback_lifted os started H enc)
#print axioms rback_holds
end Go.Proofs.Ytikcknngcdjnhaa
