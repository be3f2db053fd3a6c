/-
  Where up to three bytes side by side are turned a frame is none, nor is a beginning of one that lacks three bytes or more, nor one with more behind: the statement FrameTurns, for any body, place, turn and more. Conditions: none (of more than 1,000 bytes, and of places behind which fewer than three bytes stand, the statement itself asks no more than it says). The variable 'classes' is as the program's text lays it (the card's tie).
-/
import Derived.Test.YthnjonabofabkaaDoorFrU
import Derived.BigRegion
namespace Go.Proofs.YthnjonabofabkaaDoor
open Go.ChangeShapes Go.WideShapes Go.ChangeAt Go.RowKit Go.Joins
set_option linter.unusedVariables false

set_option maxRecDepth 100000 in
set_option maxHeartbeats 4000000 in
theorem fturns_walk (A : Option Addr) (k c : Nat) (l : List UInt8) (at_ : Int) (d e f : UInt8) (B : Option Addr) (m cm : Nat) (l' : List UInt8) (ha : -9223372036854775808 ≤ at_ ∧ at_ < 9223372036854775808) (w : World) (ht : Tab w) (hr : Hid (l.length = k) ∧ Rd w A c l) (hs : Hid (l'.length = m) ∧ Rd w B cm l') :
    Calls Tryd.prog 7 #[.slice A k c, .int .i64 at_, .agg #[.int .u8 (d.toNat : Int), .int .u8 (e.toNat : Int), .int .u8 (f.toNat : Int)], .slice B m cm] w fun e w' => e = .returned (.bool true) ∧ Below w.heap.size w w' := by
  obtain ⟨HK, hr⟩ := hr
  obtain ⟨HM, hs⟩ := hs
  obtain ⟨ha0, ha1⟩ := ha
  by_cases hno : (1000 : Int) < (k : Int) ∨ ((k : Int) ≤ 1000 ∧ (1000 : Int) < (m : Int))
  · rcases hno with h1 | ⟨h1, h2⟩
    all_goals
      go_enter Tryd.func7, Tryd.ntmps7
      go_wp2_with fail
      refine (alive_any _ (ht.keep ((Below.refl _ _).alloc (Nat.le_refl _) _))).mono ?_
      rintro x w1 ⟨rfl, b1⟩
      go_wp2
      go_ret
      exact ⟨rfl, ((Below.refl _ _).alloc (Nat.le_refl _) _).trans (b1.mono (by simp))⟩
  have g1 : (k : Int) ≤ 1000 := by omega
  have g2 : (m : Int) ≤ 1000 := by omega
  clear hno
  have hl : l.length ≤ 1000 := by rw [HK.out]; omega
  obtain ⟨z, hz⟩ : ∃ z, cl l.length = z := ⟨_, rfl⟩
  have HS := hid (show seB l = fr l ∧ (fr l).length = z ∧ seE l = 0 by rw [← hz]; exact se_yes hl)
  have hz1 := cl_le l.length
  have hz2 := cl_ge l.length
  rw [hz] at hz1 hz2
  have HMORE : Hid (0 < m → (opP (fr l ++ l')).isNone = true ∧ (fr l ++ l').length = z + m) := hid fun h => by
    refine ⟨by rw [opP_more hl (by rw [HM.out]; exact h)]; rfl, by rw [List.length_append, HS.out.2.1, HM.out]⟩
  have HPART : Hid (∀ a : Nat, a + 3 ≤ z → (opP ((fr l).take a)).isNone = true ∧ ((fr l).take a).length = a) := hid fun a h => by
    refine ⟨by rw [opP_part hl (by omega)]; rfl, by rw [List.length_take, HS.out.2.1]; omega⟩
  have HTURN : Hid (∀ a : Nat, a + 3 ≤ z → ∃ p r x y v, fr l = p ++ [x, y, v] ++ r ∧ p.length = a ∧ (opP (tl p r x y v d e f 3)).isNone = !still d e f) := hid fun a h => by
    obtain ⟨p, r, x, y, v, h1, h2⟩ := cut_three (fr l) a (by rw [HS.out.2.1]; exact h)
    exact ⟨p, r, x, y, v, h1, h2, turned_none hl h1⟩
  have HZ := hid HS.out.2.1
  generalize fr l = F at HS HMORE HPART HTURN HZ
  obtain ⟨i0, hi0, hz0, hzz1, hzz2⟩ := info_parts info_u8
  clear hl hz
  go_enter Tryd.func7, Tryd.ntmps7
  go_wp2_with fail
  have b0 := (Below.refl w.heap.size w).alloc (Nat.le_refl _) (.cells #[.int .u8 (d.toNat : Int), .int .u8 (e.toNat : Int), .int .u8 (f.toNat : Int)] 37)
  refine (alive_any _ (ht.keep b0)).mono ?_
  rintro x w1 ⟨rfl, b1⟩
  have k0 := keep b1 (a := ⟨w.heap.size, 0, none⟩) (v := .int .u8 (d.toNat : Int)) (by simp)
  have k1 := keep b1 (a := ⟨w.heap.size, 1, none⟩) (v := .int .u8 (e.toNat : Int)) (by simp)
  have k2 := keep b1 (a := ⟨w.heap.size, 2, none⟩) (v := .int .u8 (f.toNat : Int)) (by simp)
  replace b1 := b0.trans (b1.mono b0.size)
  replace ht := ht.keep b1
  replace hr := hr.keep b1
  replace hs := hs.keep b1
  clear b0
  go_wp2_with fail
  refine (seal_of F z 0 A k c l HK HS _ hr ht).mono ?_
  rintro e2 w2 ⟨A2, c2, rfl, hown2, b2⟩
  clear HS hr
  obtain ⟨g, rfl⟩ := own_form hown2 (by rw [HZ.out]; omega)
  have hgb : w1.heap.size ≤ g := hown2.block g rfl
  have hzc := own_cap HZ hown2
  have hcm : c2 ≤ 9223372036854775807 := hown2.rd.cap
  by_cases hat : at_ < 0 ∨ (0 ≤ at_ ∧ (z : Int) - 3 < at_)
  · by_cases hm0 : m = 0
    case' pos =>
      subst hm0
      clear HMORE hown2
    case' neg =>
      have hm1 : 0 < m := by omega
      have hm2 : (0 : Int) < (m : Int) := by omega
      obtain ⟨HM1, HM2⟩ := HMORE.out hm1
      have HM3 := hid HM1
      have HM4 := hid HM2
      clear HMORE HM1 HM2 hm0
      go_wp2_with (first
        | (at_builtin; refine wpList_append_rd_w rfl (.const (.slice none 0 0)) (.tmp 39) 23 rfl w2.heap.size 5 Tryd.underlying23 hi0 hz0 hzz1 hzz2 none 0 0 [] (hid rfl) rfl (Own.nil _ _ _) (some ⟨g, 0, none⟩) z c2 F HZ rfl hown2.rd (by omega) (Nat.le_refl _) ?_; intro A3 c3 w3 hown3 b3; rw [List.nil_append] at hown3)
        | (at_builtin; refine wpList_append_rd_w rfl (.tmp 40) (.tmp 41) 23 rfl w2.heap.size 5 Tryd.underlying23 hi0 hz0 hzz1 hzz2 A3 z c3 F HZ rfl hown3 B m cm l' HM rfl ((hs.keep b2).keep b3) (by omega) b3.size ?_; intro A4 c4 w4 hown4 b4; replace b4 := b3.trans b4))
      refine (none_of true A4 (z + m) c4 (F ++ l') HM4 HM3 _ hown4.rd (ht.keep (below_in b2 b4))).mono ?_
      rintro e5 w5 ⟨rfl, b5⟩
      replace b2 := below_in (below_in b2 b4) b5
      clear hown2 hown3 hown4 b3 b4 b5 HM3 HM4
    all_goals
      rcases hat with hat | ⟨hat, hat2⟩
      all_goals
        go_wp2
        go_ret
        exact ⟨rfl, below_in b1 b2⟩
  obtain ⟨a, rfl⟩ : ∃ a : Nat, at_ = (a : Int) := ⟨at_.toNat, by omega⟩
  have haz : a + 3 ≤ z := by omega
  have haz1 : (a : Int) ≤ (z : Int) - 3 := by omega
  clear hat ha0 ha1
  by_cases hm0 : m = 0
  case' pos =>
    subst hm0
    obtain ⟨wx, hwx⟩ : ∃ wx, w2 = wx := ⟨_, rfl⟩
    have hx : Own wx w1.heap.size 5 (some ⟨g, 0, none⟩) c2 F ∧ Below w1.heap.size w1 wx := by rw [← hwx]; exact ⟨hown2, b2⟩
    clear HMORE hown2 b2
    rw [hwx]
    clear hwx
    go_wp2_with fail
  case' neg =>
    have hm1 : 0 < m := by omega
    have hm2 : (0 : Int) < (m : Int) := by omega
    obtain ⟨HM1, HM2⟩ := HMORE.out hm1
    have HM3 := hid HM1
    have HM4 := hid HM2
    clear HMORE HM1 HM2 hm0
    go_wp2_with (first
      | (at_builtin; refine wpList_append_rd_w rfl (.const (.slice none 0 0)) (.tmp 39) 23 rfl w2.heap.size 5 Tryd.underlying23 hi0 hz0 hzz1 hzz2 none 0 0 [] (hid rfl) rfl (Own.nil _ _ _) (some ⟨g, 0, none⟩) z c2 F HZ rfl hown2.rd (by omega) (Nat.le_refl _) ?_; intro A3 c3 w3 hown3 b3; rw [List.nil_append] at hown3)
      | (at_builtin; refine wpList_append_rd_w rfl (.tmp 40) (.tmp 41) 23 rfl w2.heap.size 5 Tryd.underlying23 hi0 hz0 hzz1 hzz2 A3 z c3 F HZ rfl hown3 B m cm l' HM rfl ((hs.keep b2).keep b3) (by omega) b3.size ?_; intro A4 c4 w4 hown4 b4; replace b4 := b3.trans b4))
    refine (none_of true A4 (z + m) c4 (F ++ l') HM4 HM3 _ hown4.rd (ht.keep (below_in b2 b4))).mono ?_
    rintro e5 w5 ⟨rfl, b5⟩
    obtain ⟨wx, hwx⟩ : ∃ wx, w5 = wx := ⟨_, rfl⟩
    have hx : Own wx w1.heap.size 5 (some ⟨g, 0, none⟩) c2 F ∧ Below w1.heap.size w1 wx := by rw [← hwx]; exact ⟨(hown2.keep b4).keep b5, below_in (below_in b2 b4) b5⟩
    clear hown2 hown3 hown4 b2 b3 b4 b5 HM3 HM4
    rw [hwx]
    clear hwx
    go_wp2_with fail
  all_goals
    obtain ⟨hP1, hP2⟩ := HPART.out a haz
    have HP1 := hid hP1
    have HP2 := hid hP2
    obtain ⟨hownx, bx⟩ := hx
    clear hP1 hP2 HPART
    refine (none_of true (some ⟨g, 0, none⟩) a c2 (F.take a) HP2 HP1 _ (hownx.rd.take a) (ht.keep bx)).mono ?_
    rintro e6 w6 ⟨rfl, b6⟩
    replace hownx := hownx.keep b6
    replace bx := below_in bx b6
    clear b6 HP1 HP2
    obtain ⟨p, r, x, y, v, hF, hpa, htr⟩ := HTURN.out a haz
    have HST := hid (fun q hq => tl_step p r x y v d e f q hq)
    have hL : ∀ q, (tl p r x y v d e f q).length = z := fun q => by rw [tl_length, ← HZ.out, hF]; simp; omega
    have HLK := hid hL
    have h0 : tl p r x y v d e f 0 = F := hF.symm
    have HW := hid (show Below w1.heap.size w1 w6 ∧ Own w6 w1.heap.size 5 (some ⟨g, 0, none⟩) c2 (tl p r x y v d e f 0) from ⟨bx, by rw [h0]; exact hownx⟩)
    have HP := hid hpa
    have HTR := hid htr
    clear hF hpa htr hL h0 bx hownx HTURN HZ hi0 hz0 hzz1 hzz2 HK HM hs
    go_wp2_with fail
    go_loopw [12] (fun i wr => ∃ q : Nat, q ≤ 3 ∧ i = .int .i64 (q : Int) ∧ Hid (Below w1.heap.size w1 wr ∧ Own wr w1.heap.size 5 (some ⟨g, 0, none⟩) c2 (tl p r x y v d e f q))) (fun i _ => 3 - (intOf i).toNat)
    case atStart => exact ⟨0, by omega, rfl, HW⟩
    case round =>
      clear HW
      obtain ⟨q, hq3, rfl, HW⟩ := hrel
      by_cases hlt : q < 3
      · obtain ⟨u, v', hu, hv, hset⟩ := HST.out q hlt
        rw [HP.out] at hu hset
        obtain ⟨j, hj⟩ : ∃ j, j = a + q := ⟨_, rfl⟩
        rw [← hj] at hu hset
        have hsum : (a : Int) + (q : Int) = (j : Int) := by omega
        have hjk : (j : Int) < (z : Int) := by omega
        have hown := HW.out.2
        have hlq := HLK.out q
        unfold Own at hown
        rw [hlq] at hown
        have f1 := hown.cellAt j (by omega)
        have f2 := hown.frozenAt j
        rw [show (u8s (tl p r x y v d e f q))[j]? = some (.int .u8 (u.toNat : Int)) by simp [u8s, hu]] at f1
        have f3 : wr.cell? ⟨w.heap.size, q, none⟩ = some (.int .u8 (v'.toNat : Int)) := by
          refine keep HW.out.1 ?_
          have h : q = 0 ∨ q = 1 ∨ q = 2 := by omega
          rcases h with rfl | rfl | rfl
          · injection hv with hv; subst hv; exact k0
          · injection hv with hv; subst hv; exact k1
          · injection hv with hv; subst hv; exact k2
        have HN := hid (hown.stored j (.int .u8 ((u ^^^ v').toNat : Int))).1
        rw [u8s_set, ← hset] at HN
        have HX := hid (xor_u8 u v')
        have hq32 : (q : Int) < 3 := by omega
        have hux : (u.toNat : Int) ≤ 255 := by have := u.toNat_lt; omega
        have hvx : (v'.toNat : Int) ≤ 255 := by have := v'.toNat_lt; omega
        clear hown hlq hu hv hset hj HST k0 k1 k2
        go_wp2
        go_region
        go_wp2
        go_roundw
        case rel =>
          refine ⟨q + 1, by omega, by go_num, hid ⟨(HW.out.1.setCell (p := ⟨g, j, none⟩) hgb _).drew, ?_⟩⟩
          rw [HX.out]
          unfold Own
          rw [HLK.out]
          exact HN.out
        case measure => simp [intOf]; omega
      · obtain rfl : q = 3 := by omega
        have HL3 := hid (HLK.out 3)
        have rc := HW.out.2.rd
        have hb := b1.trans (HW.out.1.mono b1.size)
        have ht3 := ht.keep HW.out.1
        have q0 := keep HW.out.1 k0
        have q1 := keep HW.out.1 k1
        have q2 := keep HW.out.1 k2
        have HE : ∀ W : World, (binOp .neq 37 (.agg #[.int .u8 (d.toNat : Int), .int .u8 (e.toNat : Int), .int .u8 (f.toNat : Int)]) (.agg #[.int .u8 0, .int .u8 0, .int .u8 0])).run Tryd.prog W = .ok (.bool (!still d e f)) W := fun W => neq_three W _ _ _ _ _ _
        clear HST k0 k1 k2 HLK HW
        generalize still d e f = s at HTR HE
        generalize tl p r x y v d e f 3 = T3 at HTR HL3 rc
        go_wp2_with fail
        have r0 := Past.all q0
        have r1 := Past.all q1
        have r2 := Past.all q2
        refine wp_region_past (by kernel_rfl) (by kernel_rfl) ?_
        repeat (go_big_quiet_step (fail))
        go_big_quiet_step (exact quiet_below (none_of (!s) (some ⟨g, 0, none⟩) z c2 T3 HL3 HTR _ (rc.keep (Subtype.property _)) (ht3.keep (Subtype.property _))))
        repeat (go_big_quiet_step (fail))
        refine wpQuiet_nil ?_
        rintro wl ⟨⟨_, hx⟩, rfl⟩
        clear r0 r1 r2 HE
        cases s
        all_goals
          go_wp2
          go_ret
          exact ⟨rfl, below_in hb hx⟩


set_option maxRecDepth 100000 in
theorem fturns_lifted (os : Os) (started : os.Started) (H : Type) (enc : TypeId × Value → H) :
    ReturnsInHanded {} Tryd.checked os 7 .any (fun w args => (Rows.frameTurnsSpec.pre enc Tryd.prog Tryd.f7 [] false w args ∧ laidMetH Tryd.prog laidV w) ∧ sizedMet enc Tryd.prog Tryd.f7 (OpenSpec.ofChange Rows.frameTurnsSpec) false w args) (Rows.frameTurnsSpec.post enc Tryd.prog Tryd.f7 false true false false) := by
  refine returnsInHanded_of_change_and (C := Tryd.checked) (X := fun w _ => laidMetH Tryd.prog laidV w) (fun _ _ _ hh h => h.of_heap hh) own started (by kernel_rfl) Tryd.func7
    (ChangeSpec.witness_shaped (enc := enc) (C := Tryd.checked) (os := os) (X := fun w _ => laidMetH Tryd.prog laidV w) false (World.doorLaid Tryd.prog 400 os) #[.slice none 0 0, .int .i64 0, .agg #[.int .u8 0, .int .u8 0, .int .u8 0], .slice none 0 0] 8 rfl (World.shaped_of_RefB (by kernel_rfl) (by kernel_rfl)) (by kernel_rfl) (by kernel_rfl) (by kernel_rfl) (door_met os _)) ?_
  intro W base args ds gs before hval0 hW _ _ hL _
  have hval : ∀ (j : Nat) t v, Tryd.f7.params[j]? = some t → args[j]? = some v → Value.okWide Tryd.prog W .any base t v := hval0
  have hW' := hW
  obtain ⟨p, q, hA0, hV, rfl, _, _⟩ := hW
  have hA : DataW.TrodAll enc Tryd.prog W 0 (fun _ => true) true Tryd.f7.params.toList args.toList ds p := hA0
  rw [Tryd.params7] at hA hval
  obtain ⟨v0, v1, v2, v3, d0, d1, d2, d3, p0, p1, p2, p3, rfl, rfl, rfl, h0, h1, h2, h3⟩ := trodAll_four hA
  obtain ⟨rfl, rfl⟩ := trodVars_none hV
  obtain ⟨A, k, c, l, rfl, hr⟩ := open_bytes (hval 0 _ v0 rfl rfl) h0
  obtain ⟨at_, rfl, ha⟩ := open_i64 (hval 1 _ v1 rfl rfl) h1
  obtain ⟨d, e, f, rfl, _⟩ := open_three (hval 2 _ v2 rfl rfl) h2
  obtain ⟨B, m, cm, l', rfl, hs⟩ := open_bytes (hval 3 _ v3 rfl rfl) h3
  refine (fturns_walk A k c l at_ d e f B m cm l' ha W (tab_of hL) hr hs).mono fun e W' ⟨he, hg⟩ => ?_
  subst he
  exact ⟨_, rfl, law_post laidOut (by kernel_rfl) rfl Tryd.underlying4 rfl rfl hW' hg⟩

theorem fturns_holds : Rows.FrameTurnsSaid :=
  OpenClaim.holds_of_wide 7 Tryd.f7 rfl rfl rfl rfl rfl rfl rfl ⟨rfl, rfl, rfl, rfl, rfl⟩ rfl rfl rfl rfl rfl (by kernel_rfl) Tryd.func7 (by kernel_rfl)
    (of_decide_eq_true (by kernel_rfl)) (by unfold Func.isWrapper; rw [if_neg (of_decide_eq_false (by kernel_rfl))]; exact ⟨rfl, rfl⟩)
    (fun os started H enc _ => fturns_lifted os started H enc)

theorem fturns_card : Rows.FrameTurnsCardSaid :=
  Claim7.holds_tied_plain_at .later [] [.data] true Rows.frameTurnsCard.stood.harness Rows.frameTurnsCard.stood.looks
    fturns_holds (fun _ h => by cases h) (by kernel_rfl) (fun _ h => by cases h) frameTurns_row_tie rfl ⟨rfl, rfl⟩ (by kernel_rfl) rfl
    (fun f fn hf hfn => by
      obtain rfl : f = 7 := Option.some.inj ((show Tryd.prog.funcNamed "blindstamp/blindstamplaw08.FrameTurns" = some 7 by kernel_rfl).symm.trans hf) |>.symm
      obtain rfl : fn = Tryd.f7 := (Option.some.inj (Tryd.func7.symm.trans hfn)).symm
      exact ⟨by kernel_rfl, fun j t ht => by
        have hall : (Tryd.f7.params.toList.all fun u => !Tryd.prog.wantsStandIn u) = true := by kernel_rfl
        exact (show Tryd.prog.wantsStandIn t = false by simpa using List.all_eq_true.1 hall t (Array.mem_toList_iff.2 (Array.mem_of_getElem? ht)))⟩)
    (by kernel_rfl)
#print axioms fturns_card
end Go.Proofs.YthnjonabofabkaaDoor
