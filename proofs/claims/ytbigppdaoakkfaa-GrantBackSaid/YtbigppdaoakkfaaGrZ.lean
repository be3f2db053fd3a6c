/-
  What is put is got, in seven bytes, and what is got is put as just these bytes: the statement GrantBack, for every grant and bytes. Conditions: none (of more than 1,000 bytes the statement itself asks nothing but its examples).
-/
import Derived.Test.YtbigppdaoakkfaaGrU
namespace Go.Proofs.Ytbigppdaoakkfaa
open Go.ChangeShapes Go.WideShapes Go.ChangeAt Go.RowKit Go.Joins
set_option linter.unusedVariables false
set_option linter.unusedSimpArgs false

set_option maxRecDepth 100000 in
set_option maxHeartbeats 4000000 in
theorem gback_walk (u l0 l1 : Int) (b : Bool) (A : Option Addr) (n c : Nat) (l : List UInt8) (hx : Gr.typed ⟨u, l0, l1, b⟩) (w : World) (hr : Hid (l.length = n) ∧ Rd w A c l) :
    Calls Try.prog 7 #[.agg #[.int .i64 u, .int .u8 l0, .int .u32 l1, .bool b], .slice A n c] w fun e w' => e = .returned (.bool true) ∧ Below w.heap.size w w' := by
  obtain ⟨hn, hr⟩ := hr
  have hc2 : (c : Int) ≤ 9223372036854775807 := by have := hr.cap; omega
  have hE := eql_grant
  have hE' := neq_grant
  have hz : sameG 0 0 0 false 0 0 0 false = true := by decide
  have hs : sameG u l0 l1 b u l0 l1 b = true := sameG_refl u l0 l1 b
  go_enter Try.func7, Try.ntmps7
  go_wp2_with fail
  refine (alive_any _).mono ?_
  rintro e w1 ⟨rfl, b1⟩
  have hb : Below w.heap.size w w1 := below_in (by go_grown) b1
  (have s0 : w1.cell? ⟨w.heap.size, 0, none⟩ = some (.int .i64 u) := (keep b1 (by simp [go_sem])); have s1 : w1.cell? ⟨w.heap.size, 1, none⟩ = some (.int .u8 l0) := (keep b1 (by simp [go_sem])); have s2 : w1.cell? ⟨w.heap.size, 2, none⟩ = some (.int .u32 l1) := (keep b1 (by simp [go_sem])); have s3 : w1.cell? ⟨w.heap.size, 3, none⟩ = some (.bool b) := (keep b1 (by simp [go_sem])))
  replace hr := (hr.alloc _).keep b1
  clear b1
  by_cases hlen : 1000 < n
  · have hl : decide ((1000 : Int) < (n : Int)) = true := by simp; omega
    clear hlen
    go_wp2
    go_ret
    exact ⟨rfl, hb⟩
  have hl : decide ((1000 : Int) < (n : Int)) = false := by simp; omega
  have HX := hid hx
  have HL := hid hlen
  clear hlen hx
  have HG : Hid (∃ (q : Bool) (j g0 g1 g2 : Int) (g3 : Bool), Hid (okG l = q ∧ er q = j ∧ pickG q (gg l) = ⟨g0, g1, g2, g3⟩) ∧ ((q = false ∧ (j != 0) = true ∧ g0 = 0 ∧ g1 = 0 ∧ g2 = 0 ∧ g3 = false) ∨ (q = true ∧ (j != 0) = false ∧
      Hid (Gr.typed ⟨g0, g1, g2, g3⟩) ∧ Hid (pb ⟨g0, g1, g2, g3⟩ = l ∧ l.length = 7 ∧ er (mayG ⟨g0, g1, g2, g3⟩) = 0)))) := hid (by
    cases hq : okG l
    · exact ⟨false, 8, 0, 0, 0, false, hid ⟨rfl, rfl, rfl⟩, .inl ⟨rfl, rfl, rfl, rfl, rfl, rfl⟩⟩
    · obtain ⟨h1, h2, h3, h4⟩ := get_put hq
      refine ⟨true, 0, (gg l).u, (gg l).l, (gg l).c, (gg l).ok, hid ⟨rfl, rfl, rfl⟩, .inr ⟨rfl, rfl, hid h4, hid ⟨h1, h2, ?_⟩⟩⟩
      have : mayG ⟨(gg l).u, (gg l).l, (gg l).c, (gg l).ok⟩ = true := h3
      rw [this]; rfl)
  cases hq : mayG ⟨u, l0, l1, b⟩
  focus
    have HP : Hid (pb ⟨u, l0, l1, b⟩ = [] ∧ ([] : List UInt8).length = 0 ∧ er (mayG ⟨u, l0, l1, b⟩) = 8) := hid (by rw [pb, hq]; exact ⟨rfl, rfl, rfl⟩)
    clear hq
    go_wp2_with fail
    refine (gput_of [] 0 8 u l0 l1 b HX.out HP _).mono ?_
    rintro e w2 ⟨A1, c1, rfl, hr1, b2⟩
    replace hb := below_in hb b2
    replace hr := hr.keep b2
    clear b2 hr1 HP HX hs s0 s1 s2 s3
    go_wp2_with fail
  rotate_left
  focus
    obtain ⟨q1, q2, q3⟩ := put_get HX.out hq
    obtain ⟨L, hL⟩ : ∃ L, pb ⟨u, l0, l1, b⟩ = L := ⟨_, rfl⟩
    have HP : Hid (pb ⟨u, l0, l1, b⟩ = L ∧ L.length = 7 ∧ er (mayG ⟨u, l0, l1, b⟩) = 0) := hid ⟨hL, by rw [← hL]; exact q3, by rw [hq]; rfl⟩
    have HK : Hid (okG L = true ∧ er true = 0 ∧ pickG true (gg L) = ⟨u, l0, l1, b⟩) := hid ⟨by rw [← hL]; exact q1, rfl, by rw [← hL, q2]; rfl⟩
    clear hq hL q1 q2 q3
    go_wp2_with fail
    refine (gput_of L 7 0 u l0 l1 b HX.out HP _).mono ?_
    rintro e w2 ⟨A1, c1, rfl, hr1, b2⟩
    replace hb := below_in hb b2
    replace hr := hr.keep b2
    (replace s0 := keep b2 s0; replace s1 := keep b2 s1; replace s2 := keep b2 s2; replace s3 := keep b2 s3)
    clear b2
    go_wp2_with fail
    refine (gget_j 0 true u l0 l1 b A1 7 c1 L (hid HP.out.2.1) HK _ hr1).mono ?_
    rintro e w3 ⟨rfl, b3⟩
    replace hb := below_in hb b3
    replace hr := hr.keep b3
    (replace s0 := keep b3 s0; replace s1 := keep b3 s1; replace s2 := keep b3 s2; replace s3 := keep b3 s3)
    (replace s0 := fun o => keepa s0 o; replace s1 := fun o => keepa s1 o; replace s2 := fun o => keepa s2 o; replace s3 := fun o => keepa s3 o)
    clear b3 hr1 HP HK HX
    go_wp2_with fail
    replace hr := hr.alloc (.cells #[.int .i64 u, .int .u8 l0, .int .u32 l1, .bool b] 36)
    replace hb := hb.alloc hb.size (.cells #[.int .i64 u, .int .u8 l0, .int .u32 l1, .bool b] 36)
    clear s0 s1 s2 s3 hs
  all_goals
    obtain ⟨q, j, g0, g1, g2, g3, HK, hcase⟩ := HG.out
    clear HG
    rcases hcase with ⟨rfl, hj, rfl, rfl, rfl, rfl⟩ | ⟨rfl, hj, HN2, HP2⟩
    · refine (gget_j j false 0 0 0 false A n c l hn HK _ hr).mono ?_
      rintro e w6 ⟨rfl, b6⟩
      replace hb := below_in hb b6
      go_wp2
      go_ret
      exact ⟨rfl, hb.alloc hb.size _⟩
    · refine (gget_j j true g0 g1 g2 g3 A n c l hn HK _ hr).mono ?_
      rintro e w6 ⟨rfl, b6⟩
      replace hb := below_in hb b6
      replace hr := hr.keep b6
      clear b6 HK
      go_wp2_with fail
      refine (gput_of l 7 0 g0 g1 g2 g3 HN2.out HP2 _).mono ?_
      rintro e w7 ⟨A7, c7, rfl, hr7, b7⟩
      replace b7 := past_alloc b7
      replace hb := below_in hb b7
      replace hr := hr.keep b7
      clear b7
      have y1 := rd_string (n := 7) (hid HP2.out.2.1) hr7
      have y2 := rd_string hn hr
      clear hr hr7
      go_wp2
      go_ret
      exact ⟨rfl, hb⟩


set_option maxRecDepth 100000 in
theorem gback_lifted (os : Os) (started : os.Started) (H : Type) (enc : TypeId × Value → H) :
    ReturnsInHanded {} Try.checked os 7 .any (Rows.grantBackSpec.pre6 enc Try.prog Try.f7 Rows.grantBackRow.domain false) (Rows.grantBackSpec.post enc Try.prog Try.f7 false true false false) := by
  refine returnsInHanded_of_change (C := Try.checked) own started (by kernel_rfl) Try.func7
    (ChangeSpec.witness6 (enc := enc) (C := Try.checked) false ⟨#[], #[.agg #[.int .i64 0, .int .u8 0, .int .u32 0, .bool false], .slice none 0 0], []⟩ 8 (by kernel_rfl) (by kernel_rfl) (by kernel_rfl) (by kernel_rfl)) ?_
  intro W base args ds gs before hval0 hW _ _
  have hval : ∀ (j : Nat) t v, Try.f7.params[j]? = some t → args[j]? = some v → Value.okWide Try.prog W .any base t v := hval0
  have hW' := hW
  obtain ⟨p, q, hA0, hV, rfl, _, _⟩ := hW
  have hA : DataW.TrodAll enc Try.prog W 0 (fun _ => true) true Try.f7.params.toList args.toList ds p := hA0
  rw [Try.params7] at hA hval
  obtain ⟨v0, v1, d0, d1, p0, p1, rfl, rfl, rfl, h0, h1⟩ := trodAll_two hA
  obtain ⟨rfl, rfl⟩ := trodVars_none hV
  obtain ⟨u, l0, l1, b, rfl, hx⟩ := open_grant (hval 0 _ v0 rfl rfl) h0
  obtain ⟨A, n, c, l, rfl, hr⟩ := open_bytes (hval 1 _ v1 rfl rfl) h1
  refine (gback_walk u l0 l1 b A n c l hx W hr).mono fun e W' ⟨he, hg⟩ => ?_
  subst he
  exact ⟨_, rfl, law_post laidOut (by kernel_rfl) rfl Try.underlying4 rfl rfl hW' hg⟩

theorem gback_holds : Rows.GrantBackSaid :=
  OpenClaim.holds_of_wide 7 Try.f7 rfl rfl rfl rfl rfl rfl rfl ⟨rfl, rfl, rfl, rfl, rfl⟩ rfl rfl rfl rfl rfl (by kernel_rfl) Try.func7 (by kernel_rfl)
    (of_decide_eq_true (by kernel_rfl)) (by unfold Func.isWrapper; rw [if_neg (of_decide_eq_false (by kernel_rfl))]; exact ⟨rfl, rfl⟩)
    (fun os started H enc _ => gback_lifted os started H enc)
#print axioms gback_holds
end Go.Proofs.Ytbigppdaoakkfaa
