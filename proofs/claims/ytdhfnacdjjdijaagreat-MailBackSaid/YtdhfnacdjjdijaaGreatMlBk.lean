/-
  THE STATEMENT MailBack: what is put is got, is the same, and may be; what is got is put as just these bytes, and what is not got is told as none; for any mail and any bytes. No condition but the statement's own guards (10 operations, 500 runes each, 3,000 bytes).
-/
import Derived.Test.YtdhfnacdjjdijaaGreatMlY
import Derived.Test.YtdhfnacdjjdijaaGreatMlX
import Derived.Test.YtdhfnacdjjdijaaGreatLaw
namespace Go.Proofs.YtdhfnacdjjdijaaGreat
open Go.ChangeShapes Go.WideShapes Go.ChangeAt Go.RowKit Go.Joins
set_option linter.unusedVariables false
set_option linter.unusedSimpArgs false

set_option maxRecDepth 100000 in
set_option maxHeartbeats 6400000 in
theorem mback_walk (m : Mld) (A : Option Addr) (n c : Nat) (A2 : Option Addr) (n2 c2 : Nat) (l : List UInt8) (w : World) (hr : Mlr m ∧ Hid (m.ops.length = n) ∧ RdO w A c m.ops) (hs : Hid (l.length = n2) ∧ Rd w A2 c2 l) :
    Calls Tryz.prog 5 #[.agg #[.int .u8 m.kd, .int .i64 m.us, .int .i64 m.se, .int .i64 m.co, .int .i64 m.fr, .int .i64 m.tt, .int .u8 m.ak, .int .i64 m.t0, .int .i64 m.t1, .int .i64 m.t2, .int .i64 m.t3, .slice A n c], .slice A2 n2 c2] w fun e w' => e = .returned (.bool true) ∧ Below w.heap.size w w' := by
  obtain ⟨hmr, hn, hra⟩ := hr
  obtain ⟨hn2, hsl⟩ := hs
  have bx0 := boxM_new w m A n c 27
  have HSL := hid hsl
  have HRA := hid hra
  have hc21 : (n2 : Int) ≤ c2 := by have := hsl.len; have := hn2.out; omega
  have hc22 : (c2 : Int) ≤ 9223372036854775807 := by have := hsl.cap; omega
  clear hsl hra
  go_enter Tryz.func5, Tryz.ntmps5
  go_wp2_with fail
  refine (alive_any _).mono ?_
  rintro e w1 ⟨rfl, b1⟩
  have bx1 := bx0.keep b1
  have hb1 := past_alloc b1
  clear bx0 b1
  go_wp2_with (refine wpList_load_m rfl (.tmp 2) rfl w.heap.size rfl bx1 ?_)
  obtain ⟨g, hg⟩ : ∃ g, greatM m = g := ⟨_, rfl⟩
  have HG := hid hg
  clear hg
  refine (great_of g m A n c hn HG _ (HRA.out.keep hb1)).mono ?_
  rintro e w2 ⟨rfl, b2⟩
  have bx2 := bx1.keep b2
  have hb2 := below_in hb1 b2
  clear bx1 b2 hb1
  cases g
  · by_cases h3 : 3000 < n2
    · have d1 : (3000 : Int) < (n2 : Int) := by omega
      clear bx2
      go_wp2
      go_ret
      exact ⟨rfl, hb2⟩
    have d1 : ¬ (3000 : Int) < (n2 : Int) := by omega
    cases hq : mayM m
    case' true =>
      have HQ := hid hq
      obtain ⟨L, hl⟩ : ∃ L, (mlb m).length = L := ⟨_, rfl⟩
      have HL := hid hl
      have HMI := hid (show Mis (mlb m) m from ⟨hmr, hq, rfl⟩)
      clear hq hl
      go_wp2_with (refine wpList_load_m rfl (.tmp 2) rfl w.heap.size rfl bx2 ?_)
      refine (mput_yes L m A n c hn hmr HQ.out HL _ (HRA.out.keep hb2)).mono ?_
      rintro e w3 ⟨A3, c3, rfl, hr3, b3⟩
      have bx3 := bx2.keep b3
      have hb3 := below_in hb2 b3
      clear bx2 b3 hb2
      go_wp2_with fail
      refine (mget_of A3 L c3 (mlb m) HL _ hr3).mono ?_
      rintro e w4 ⟨m4, A4, k4, c4, j4, rfl, hg4, hk4, ho4, b4⟩
      obtain ⟨rfl, rfl⟩ := hg4.one (.inl ⟨HMI.out, rfl⟩)
      have bx4 := bx3.keep b4
      have hb4 := below_in hb3 b4
      have HK4 := hid hk4
      have th4 := thereM_new w4 (#[.int .u8 0, .int .i64 0, .int .i64 0, .int .i64 0, .int .i64 0, .int .i64 0, .int .u8 0, .int .i64 0, .int .i64 0, .int .i64 0, .int .i64 0, .slice none 0 0]) rfl 27
      clear bx3 hb3 b4 hg4 hr3 hk4
      have one : True := trivial
      have two : True := trivial
      have three : True := trivial
      go_wp2_with (first
        | (clear one; refine wpList_store_m rfl (.tmp 8) (.tmp 37) rfl w4.heap.size rfl m4 A4 k4 c4 rfl th4 w4.heap.size (Nat.le_refl _) ?_; intro w5 bx5 th5 b5 hh5 sz5; clear hh5 sz5; have b45 : Below w4.heap.size w4 w5 := ((Below.refl _ _).alloc (Nat.le_refl _) _).trans b5; have bm5 := bx4.keep b45)
        | (clear two; refine wpList_load_m rfl (.tmp 8) rfl w4.heap.size rfl bx5 ?_)
        | (clear three; refine wpList_load_m rfl (.tmp 2) rfl w.heap.size rfl bm5 ?_))
      have hb5 := below_in hb4 b45
      have ho5 := ho4.keep b45
      clear bx4 th4 b5 th5 b45 ho4 hb4 bx5
      refine (rmsame_of true m4 A4 k4 c4 HK4 m4 A n c hn (hid (sameM_self _)) _ ho5.rd (HRA.out.keep hb5)).mono ?_
      rintro e w6 ⟨rfl, b6⟩
      have bm6 := bm5.keep b6
      have hb6 := below_in hb5 b6
      clear bm5 b6 hb5 ho5
      have HJ := hid (show er (mayM m4) = 0 by rw [HQ.out]; rfl)
      go_wp2_with (refine wpList_load_m rfl (.tmp 2) rfl w.heap.size rfl bm6 ?_)
      refine (mcheck_of 0 m4 A n c hn HJ _ (HRA.out.keep hb6)).mono ?_
      rintro e w7 ⟨rfl, b7⟩
      have hbX := below_in hb6 b7
      clear bm6 hb6 b7
      go_wp2_with fail
    case' false =>
      have HQ := hid hq
      clear hq
      go_wp2_with (refine wpList_load_m rfl (.tmp 2) rfl w.heap.size rfl bx2 ?_)
      refine (mput_no m A n c hn HQ _ (HRA.out.keep hb2)).mono ?_
      rintro e w3 ⟨rfl, b3⟩
      have hbX := below_in hb2 b3
      clear bx2 b3 hb2
      go_wp2_with fail
    all_goals
      refine (mget_of A2 n2 c2 l hn2 _ (HSL.out.keep hbX)).mono ?_
      rintro e v1 ⟨p, B1, e1, d1', j1, rfl, hg1, hk1, ho1, a1⟩
      have hc1 := below_in hbX a1
      have HK1 := hid hk1
      have tv := thereM_new v1 (#[.int .u8 0, .int .i64 0, .int .i64 0, .int .i64 0, .int .i64 0, .int .i64 0, .int .u8 0, .int .i64 0, .int .i64 0, .int .i64 0, .int .i64 0, .slice none 0 0]) rfl 27
      clear hbX a1 hk1
      rcases hg1 with ⟨hM, rfl⟩ | ⟨_, rfl, rfl⟩
      · obtain ⟨L1, hL1⟩ : ∃ L1, (mlb p).length = L1 := ⟨_, rfl⟩
        have HL1 := hid hL1
        have HMM := hid hM
        clear hL1 hM
        have one : True := trivial
        have two : True := trivial
        go_wp2_with (first
          | (clear one; refine wpList_store_m rfl (.tmp 10) (.tmp 55) rfl v1.heap.size rfl p B1 e1 d1' rfl tv v1.heap.size (Nat.le_refl _) ?_; intro v2 bv2 tv2 a2 hh2 sz2; clear hh2 sz2; have b12 : Below v1.heap.size v1 v2 := ((Below.refl _ _).alloc (Nat.le_refl _) _).trans a2)
          | (clear two; refine wpList_load_m rfl (.tmp 10) rfl v1.heap.size rfl bv2 ?_))
        have hc2 := below_in hc1 b12
        have ho2 := ho1.keep b12
        clear tv tv2 a2 bv2 b12 ho1 hc1
        refine (mput_yes L1 p B1 e1 d1' HK1 HMM.out.r HMM.out.may HL1 _ ho2.rd).mono ?_
        rintro e v3 ⟨B3, d3, rfl, hr3, a3⟩
        have hc3 := below_in hc2 a3
        rw [HMM.out.eq] at hr3
        have HL2 : Hid (l.length = L1) := hid (by rw [← HMM.out.eq]; exact HL1.out)
        have y1 := rd_string HL2 hr3
        have y2 := rd_string hn2 (HSL.out.keep hc3)
        clear a3 hc2 ho2 hr3
        go_wp2
        go_ret
        exact ⟨ret_bool (by simp), hc3⟩
      · have one : True := trivial
        have two : True := trivial
        go_wp2_with (first
          | (clear one; refine wpList_store_m rfl (.tmp 10) (.tmp 55) rfl v1.heap.size rfl zM B1 e1 d1' rfl tv v1.heap.size (Nat.le_refl _) ?_; intro v2 bv2 tv2 a2 hh2 sz2; clear hh2 sz2; have b12 : Below v1.heap.size v1 v2 := ((Below.refl _ _).alloc (Nat.le_refl _) _).trans a2)
          | (clear two; refine wpList_load_m rfl (.tmp 10) rfl v1.heap.size rfl bv2 ?_))
        have hc2 := below_in hc1 b12
        have ho2 := ho1.keep b12
        clear tv tv2 a2 bv2 b12 ho1 hc1
        refine (rmsame_of true zM B1 e1 d1' HK1 zM none 0 0 (hid rfl) (hid (sameM_self _)) _ ho2.rd (RdO.nil _)).mono ?_
        rintro e v3 ⟨rfl, a3⟩
        have hc3 := below_in hc2 a3
        clear a3 hc2 ho2
        go_wp2
        go_ret
        exact ⟨rfl, hc3⟩
  · clear bx2
    go_wp2
    go_ret
    exact ⟨rfl, hb2⟩

set_option maxRecDepth 100000 in
theorem mback_lifted (os : Os) (started : os.Started) (H : Type) (enc : TypeId × Value → H) :
    ReturnsInHanded {} Tryz.checked os 5 .any (Rows.mailBackSpec.pre6 enc Tryz.prog Tryz.f5 Rows.mailBackRow.domain false) (Rows.mailBackSpec.post enc Tryz.prog Tryz.f5 false true false false) := by
  refine returnsInHanded_of_change (C := Tryz.checked) own started (by kernel_rfl) Tryz.func5
    (ChangeSpec.witness6 (enc := enc) (C := Tryz.checked) false ⟨#[], #[.agg #[.int .u8 0, .int .i64 0, .int .i64 0, .int .i64 0, .int .i64 0, .int .i64 0, .int .u8 0, .int .i64 0, .int .i64 0, .int .i64 0, .int .i64 0, .slice none 0 0], .slice none 0 0], []⟩ 8 (by kernel_rfl) (by kernel_rfl) (by kernel_rfl) (by kernel_rfl)) ?_
  intro W base args ds gs before hval0 hW _ _
  have hval : ∀ (j : Nat) t v, Tryz.f5.params[j]? = some t → args[j]? = some v → Value.okWide Tryz.prog W .any base t v := hval0
  have hW' := hW
  obtain ⟨p, q, hA0, hV, rfl, _, _⟩ := hW
  have hA : DataW.TrodAll enc Tryz.prog W 0 (fun _ => true) true Tryz.f5.params.toList args.toList ds p := hA0
  rw [Tryz.params5] at hA hval
  obtain ⟨v0, v1, d0, d1, p0, p1, rfl, rfl, rfl, h0, h1⟩ := trodAll_two hA
  obtain ⟨rfl, rfl⟩ := trodVars_none hV
  obtain ⟨m, A, n, c, rfl, hr⟩ := open_mail (hval 0 _ v0 rfl rfl) h0
  obtain ⟨A2, n2, c2, l, rfl, hs⟩ := open_bytes (hval 1 _ v1 rfl rfl) h1
  refine (mback_walk m A n c A2 n2 c2 l W hr hs).mono fun e W' ⟨he, hg⟩ => ?_
  subst he
  exact ⟨_, rfl, law_post laidOut (by kernel_rfl) rfl Tryz.underlying4 rfl rfl hW' hg⟩

theorem mback_holds : Rows.MailBackSaid :=
  OpenClaim.holds_of_wide 5 Tryz.f5 rfl rfl rfl rfl rfl rfl rfl ⟨rfl, rfl, rfl, rfl, rfl⟩ rfl rfl rfl rfl rfl (by kernel_rfl) Tryz.func5 (by kernel_rfl)
    (of_decide_eq_true (by kernel_rfl)) (by unfold Func.isWrapper; rw [if_neg (of_decide_eq_false (by kernel_rfl))]; exact ⟨rfl, rfl⟩)
    (fun os started H enc _ => mback_lifted os started H enc)
#print axioms mback_holds
end Go.Proofs.YtdhfnacdjjdijaaGreat
