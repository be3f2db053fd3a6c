/-
  THE STATEMENT OpBack, THE STAGE'S THEOREM: what is put is got, whatever stands behind; what is got is put as just these bytes; for every operation and every bytes. No condition but the statement's own guards.
-/
import Derived.Test.YtbhglgcnoidddaaOpX
import Derived.Test.YtbhglgcnoidddaaOpW
import Derived.Test.YtbhglgcnoidddaaOpF2
import Derived.BigRegion
namespace Go.Proofs.Ytbhglgcnoidddaa
open Go.ChangeShapes Go.WideShapes Go.ChangeAt Go.RowKit Go.Joins
set_option linter.unusedVariables false
set_option linter.unusedSimpArgs false

theorem got_put {o o9 : Opd} {z9 j9 : Int} (hr : Opr o) (hm : mayO o = true) (l : List UInt8) (h : Got (opb o ++ l) o9 z9 j9) : o9 = o ∧ z9 = ((opb o).length : Int) ∧ j9 = 0 :=
  h.one (.inl ⟨⟨hr, hm, List.prefix_append _ _⟩, rfl, rfl⟩)

set_option maxRecDepth 100000 in
set_option maxHeartbeats 6400000 in
theorem oback_walk (o : Opd) (A : Option Addr) (n c : Nat) (A2 : Option Addr) (n2 c2 : Nat) (l : List UInt8) (w : World) (hr : Opr o ∧ Hid (o.row.length = n) ∧ Ri w A c o.row) (hs : Hid (l.length = n2) ∧ Rd w A2 c2 l) :
    Calls Try.prog 5 #[.agg #[.int .u8 o.kd, .int .u8 o.l, .int .u32 o.c, .int .u8 o.k, .int .i64 o.s, .int .u8 o.fl, .int .u32 o.fc, .int .u8 o.fk, .int .i64 o.fn, .int .i64 o.fm, .int .u8 o.al, .int .u32 o.ac, .int .u8 o.ak, .int .i64 o.an, .int .u8 o.tl, .int .u32 o.tc, .slice A n c], .slice A2 n2 c2] w fun e w' => e = .returned (.bool true) ∧ Below w.heap.size w w' := by
  obtain ⟨i0, hi0, hz0, hz1, hz2⟩ := info_parts info_u8
  obtain ⟨hor, hn, hra⟩ := hr
  obtain ⟨hl, hrb⟩ := hs
  have bx0 := boxO_new w o A n c 35
  have HRB := hid hrb
  go_enter Try.func5, Try.ntmps5
  go_wp2_with fail
  refine (alive_any _).mono ?_
  rintro e w1 ⟨rfl, b1⟩
  have bx1 := bx0.keep b1
  have hb1 := past_alloc b1
  clear bx0 b1 hrb
  have t16 := bx1.c16
  by_cases hn5 : 1000 < n
  · have d1 : (1000 : Int) < (n : Int) := by omega
    go_wp2
    go_ret
    exact ⟨rfl, hb1⟩
  have d1 : ¬ (1000 : Int) < (n : Int) := by omega
  by_cases hmn : 1000 < n2
  · have d2 : (1000 : Int) < (n2 : Int) := by omega
    go_wp2
    go_ret
    exact ⟨rfl, hb1⟩
  have d2 : ¬ (1000 : Int) < (n2 : Int) := by omega
  cases hq : mayO o
  · have HQ := hid hq
    clear hq
    go_wp2_with (refine wpList_load_o rfl (.tmp 2) rfl _ rfl bx1 ?_)
    refine (oput_no o A n c hn HQ _ (hra.keep hb1)).mono ?_
    rintro e w2 ⟨rfl, b2⟩
    have hb2 := below_in hb1 b2
    clear b2 hb1 bx1 t16
    go_wp2_with fail
    refine (oget_of A2 n2 c2 l hl _ (HRB.out.keep hb2)).mono ?_
    rintro e w5 ⟨o5, A5, k5, c5, z5, j5, rfl, hg5, hk5, ho5, b5⟩
    have hb5 := below_in hb2 b5
    have HK5 := hid hk5
    rcases hg5 with ⟨hB5, rfl, rfl⟩ | ⟨_, rfl, rfl, rfl⟩
    · obtain ⟨p5, hp5⟩ : ∃ p5, (opb o5).length = p5 := ⟨_, rfl⟩
      have HP5 := hid hp5
      rw [hp5]
      have hle := hB5.pre.length_le
      rw [hp5, hl.out] at hle
      have hle2 : (p5 : Int) ≤ (n2 : Int) := by omega
      have h24 := (opb_length hB5.may).2.1
      obtain ⟨bb, bo, rfl, _⟩ := HRB.out.at_ (by rw [hl.out]; omega)
      have hcc : (p5 : Int) ≤ (c2 : Int) := by have := HRB.out.len; have := hl.out; omega
      have hcc2 : (c2 : Int) ≤ 9223372036854775807 := by have := HRB.out.cap; omega
      have HTK := hid (show l.take p5 = opb o5 by rw [← hp5]; exact (List.prefix_iff_eq_take.1 hB5.pre).symm)
      have HBB := hid hB5
      clear hp5 hle h24 hB5 b5
      go_wp2_with (first
        | (refine wpList_store_o rfl (.tmp 11) (.tmp 64) rfl w5.heap.size rfl o5 A5 k5 c5 rfl (thereO_new w5 _ rfl _) w5.heap.size (Nat.le_refl _) ?_; intro w6 bx6 th6 b6 hh6 sz6; have b56 : Below w5.heap.size w5 w6 := ((Below.refl _ _).alloc (Nat.le_refl _) _).trans b6; have hb6 := below_in hb5 b56; have ho6 := ho5.keep b56; clear sz6 hh6 b6)
        | (refine wpList_load_o rfl (.tmp 11) rfl _ rfl bx6 ?_))
      refine (oput_yes p5 o5 A5 k5 c5 HK5 HBB.out.r HBB.out.may HP5 _ ho6.ri).mono ?_
      rintro e w7 ⟨A7, c7, rfl, hr7, b7⟩
      have hb7 := below_in hb6 b7
      have y1 := fun W (h : Rd W A7 c7 (opb o5)) => rd_string HP5 h
      have hrt := (HRB.out.keep hb7).take p5
      rw [HTK.out] at hrt
      have y1 := rd_string HP5 hr7.drew
      have y2 := rd_string HP5 hrt.drew
      clear hr7 hrt ho5 ho6 bx6 th6
      go_wp2_with fail
      go_region
      all_goals
        go_wp2
        go_ret
        exact ⟨rfl, hb7.drew⟩
    · clear b5
      go_wp2_with (first
        | (refine wpList_store_o rfl (.tmp 11) (.tmp 64) rfl w5.heap.size rfl zO A5 k5 c5 rfl (thereO_new w5 _ rfl _) w5.heap.size (Nat.le_refl _) ?_; intro w6 bx6 th6 b6 hh6 sz6; have b56 : Below w5.heap.size w5 w6 := ((Below.refl _ _).alloc (Nat.le_refl _) _).trans b6; have hb6 := below_in hb5 b56; have ho6 := ho5.keep b56; clear sz6 hh6 b6)
        | (refine wpList_load_o rfl (.tmp 11) rfl _ rfl bx6 ?_))
      refine (rsame_of true zO A5 k5 c5 HK5 zO none 0 0 (hid rfl) (hid (sameO_self zO)) _ ho6.ri (Ri.nil _)).mono ?_
      rintro e w7 ⟨rfl, b7⟩
      have hb7 := below_in hb6 b7
      go_wp2
      go_ret
      exact ⟨rfl, hb7⟩
  · obtain ⟨p, hp⟩ : ∃ p, (opb o).length = p := ⟨_, rfl⟩
    have hlen := opb_length hq
    have HP := hid hp
    have HQ := hid hq
    have hp293 : p ≤ 293 := by rw [← hp]; exact hlen.2.2.1
    have hsum := hid (show (opb o ++ l).length = p + n2 by rw [List.length_append, hp, hl.out])
    clear hlen hp hq
    go_wp2_with (refine wpList_load_o rfl (.tmp 2) rfl _ rfl bx1 ?_)
    refine (oput_yes p o A n c hn hor HQ.out HP _ (hra.keep hb1)).mono ?_
    rintro e w2 ⟨A3, c3, rfl, hr3, b2⟩
    have bx2 := bx1.keep b2
    have hb2 := below_in hb1 b2
    clear bx1 t16 b2 hb1
    go_wp2_with (first
      | (at_builtin; refine wpList_append_rd rfl (.const (.slice none 0 0)) (.tmp 39) 44 rfl w2.heap.size 5 Try.underlying44 hi0 hz0 hz1 hz2 none 0 0 [] (hid rfl) rfl (Own.nil _ _ _) A3 p c3 (opb o) HP rfl hr3 (by omega) (Nat.le_refl _) ?_; intro A4 c4 w3 ho3 b3; replace ho3 : Own w3 w2.heap.size 5 A4 c4 (opb o) := (by simpa using ho3))
      | (at_builtin; refine wpList_append_rd rfl (.tmp 40) (.tmp 41) 44 rfl w2.heap.size 5 Try.underlying44 hi0 hz0 hz1 hz2 A4 p c4 (opb o) HP rfl ho3 A2 n2 c2 l hl rfl (HRB.out.keep (below_in hb2 b3)) (by omega) b3.size ?_; intro A6 c6 w4 ho4 b4; replace b4 := b3.trans b4))
    refine (oget_of A6 (p + n2) c6 (opb o ++ l) hsum _ ho4.rd).mono ?_
    rintro e w8 ⟨o9, A9, k9, c9, z9, j9, rfl, hg, hk9, ho9, b8⟩
    obtain ⟨rfl, hz9, rfl⟩ := got_put hor HQ.out l hg
    rw [HP.out] at hz9
    subst hz9
    have b28 : Below w2.heap.size w2 w8 := b4.trans (b8.mono b4.size)
    have bx8 := bx2.keep b28
    have hb8 := below_in hb2 b28
    have HK9 := hid hk9
    clear ho3 ho4 b3 b4 b8 b28 bx2 hb2 hg hk9 hr3
    go_wp2_with (first
      | (refine wpList_store_o rfl (.tmp 8) (.tmp 44) rfl w8.heap.size rfl o9 A9 k9 c9 rfl (thereO_new w8 _ rfl _) w8.heap.size (Nat.le_refl _) ?_; intro w9 bx9 th9 b9 hh9 sz9; have b89 : Below w8.heap.size w8 w9 := ((Below.refl _ _).alloc (Nat.le_refl _) _).trans b9; have hb9 := below_in hb8 b89; have bxo := bx8.keep b89; have ri9 := (ho9.keep b89).ri; clear sz9 hh9 b9)
      | (refine wpList_load_o rfl (.tmp 8) rfl _ rfl bx9 ?_)
      | (refine wpList_load_o rfl (.tmp 2) rfl _ rfl bxo ?_))
    refine (rsame_of true o9 A9 k9 c9 HK9 o9 A n c hn (hid (sameO_self o9)) _ ri9 (hra.keep hb9)).mono ?_
    rintro e w10 ⟨rfl, b10⟩
    have hb10 := below_in hb9 b10
    clear b10 hb9 bx9 th9 bxo ri9 ho9 bx8 hb8
    go_wp2_with fail
    refine (oget_of A2 n2 c2 l hl _ (HRB.out.keep hb10)).mono ?_
    rintro e w5 ⟨o5, A5, k5, c5, z5, j5, rfl, hg5, hk5, ho5, b5⟩
    have hb5 := below_in hb10 b5
    have HK5 := hid hk5
    rcases hg5 with ⟨hB5, rfl, rfl⟩ | ⟨_, rfl, rfl, rfl⟩
    · obtain ⟨p5, hp5⟩ : ∃ p5, (opb o5).length = p5 := ⟨_, rfl⟩
      have HP5 := hid hp5
      rw [hp5]
      have hle := hB5.pre.length_le
      rw [hp5, hl.out] at hle
      have hle2 : (p5 : Int) ≤ (n2 : Int) := by omega
      have h24 := (opb_length hB5.may).2.1
      obtain ⟨bb, bo, rfl, _⟩ := HRB.out.at_ (by rw [hl.out]; omega)
      have hcc : (p5 : Int) ≤ (c2 : Int) := by have := HRB.out.len; have := hl.out; omega
      have hcc2 : (c2 : Int) ≤ 9223372036854775807 := by have := HRB.out.cap; omega
      have HTK := hid (show l.take p5 = opb o5 by rw [← hp5]; exact (List.prefix_iff_eq_take.1 hB5.pre).symm)
      have HBB := hid hB5
      clear hp5 hle h24 hB5 b5
      go_wp2_with (first
        | (refine wpList_store_o rfl (.tmp 11) (.tmp 64) rfl w5.heap.size rfl o5 A5 k5 c5 rfl (thereO_new w5 _ rfl _) w5.heap.size (Nat.le_refl _) ?_; intro w6 bx6 th6 b6 hh6 sz6; have b56 : Below w5.heap.size w5 w6 := ((Below.refl _ _).alloc (Nat.le_refl _) _).trans b6; have hb6 := below_in hb5 b56; have ho6 := ho5.keep b56; clear sz6 hh6 b6)
        | (refine wpList_load_o rfl (.tmp 11) rfl _ rfl bx6 ?_))
      refine (oput_yes p5 o5 A5 k5 c5 HK5 HBB.out.r HBB.out.may HP5 _ ho6.ri).mono ?_
      rintro e w7 ⟨A7, c7, rfl, hr7, b7⟩
      have hb7 := below_in hb6 b7
      have y1 := fun W (h : Rd W A7 c7 (opb o5)) => rd_string HP5 h
      have hrt := (HRB.out.keep hb7).take p5
      rw [HTK.out] at hrt
      have y1 := rd_string HP5 hr7.drew
      have y2 := rd_string HP5 hrt.drew
      clear hr7 hrt ho5 ho6 bx6 th6
      go_wp2_with fail
      go_region
      all_goals
        go_wp2
        go_ret
        exact ⟨rfl, hb7.drew⟩
    · clear b5
      go_wp2_with (first
        | (refine wpList_store_o rfl (.tmp 11) (.tmp 64) rfl w5.heap.size rfl zO A5 k5 c5 rfl (thereO_new w5 _ rfl _) w5.heap.size (Nat.le_refl _) ?_; intro w6 bx6 th6 b6 hh6 sz6; have b56 : Below w5.heap.size w5 w6 := ((Below.refl _ _).alloc (Nat.le_refl _) _).trans b6; have hb6 := below_in hb5 b56; have ho6 := ho5.keep b56; clear sz6 hh6 b6)
        | (refine wpList_load_o rfl (.tmp 11) rfl _ rfl bx6 ?_))
      refine (rsame_of true zO A5 k5 c5 HK5 zO none 0 0 (hid rfl) (hid (sameO_self zO)) _ ho6.ri (Ri.nil _)).mono ?_
      rintro e w7 ⟨rfl, b7⟩
      have hb7 := below_in hb6 b7
      go_wp2
      go_ret
      exact ⟨rfl, hb7⟩


set_option maxRecDepth 100000 in
theorem oback_lifted (os : Os) (started : os.Started) (H : Type) (enc : TypeId × Value → H) :
    ReturnsInHanded {} Try.checked os 5 .any (Rows.opBackSpec.pre6 enc Try.prog Try.f5 Rows.opBackRow.domain false) (Rows.opBackSpec.post enc Try.prog Try.f5 false true false false) := by
  refine returnsInHanded_of_change (C := Try.checked) own started (by kernel_rfl) Try.func5
    (ChangeSpec.witness6 (enc := enc) (C := Try.checked) false ⟨#[], #[.agg #[.int .u8 0, .int .u8 0, .int .u32 0, .int .u8 0, .int .i64 0, .int .u8 0, .int .u32 0, .int .u8 0, .int .i64 0, .int .i64 0, .int .u8 0, .int .u32 0, .int .u8 0, .int .i64 0, .int .u8 0, .int .u32 0, .slice none 0 0], .slice none 0 0], []⟩ 8 (by kernel_rfl) (by kernel_rfl) (by kernel_rfl) (by kernel_rfl)) ?_
  intro W base args ds gs before hval0 hW _ _
  have hval : ∀ (j : Nat) t v, Try.f5.params[j]? = some t → args[j]? = some v → Value.okWide Try.prog W .any base t v := hval0
  have hW' := hW
  obtain ⟨p, q, hA0, hV, rfl, _, _⟩ := hW
  have hA : DataW.TrodAll enc Try.prog W 0 (fun _ => true) true Try.f5.params.toList args.toList ds p := hA0
  rw [Try.params5] at hA hval
  obtain ⟨v0, v1, d0, d1, p0, p1, rfl, rfl, rfl, h0, h1⟩ := trodAll_two hA
  obtain ⟨rfl, rfl⟩ := trodVars_none hV
  obtain ⟨o, A, n, c, rfl, hr⟩ := open_op (hval 0 _ v0 rfl rfl) h0
  obtain ⟨A2, n2, c2, l, rfl, hs⟩ := open_bytes (hval 1 _ v1 rfl rfl) h1
  refine (oback_walk o A n c A2 n2 c2 l W hr hs).mono fun e W' ⟨he, hg⟩ => ?_
  subst he
  exact ⟨_, rfl, law_post laidOut (by kernel_rfl) rfl Try.underlying4 rfl rfl hW' hg⟩

theorem oback_holds : Rows.OpBackSaid :=
  OpenClaim.holds_of_wide 5 Try.f5 rfl rfl rfl rfl rfl rfl rfl ⟨rfl, rfl, rfl, rfl, rfl⟩ rfl rfl rfl rfl rfl (by kernel_rfl) Try.func5 (by kernel_rfl)
    (of_decide_eq_true (by kernel_rfl)) (by unfold Func.isWrapper; rw [if_neg (of_decide_eq_false (by kernel_rfl))]; exact ⟨rfl, rfl⟩)
    (fun os started H enc _ => oback_lifted os started H enc)
#print axioms oback_holds
end Go.Proofs.Ytbhglgcnoidddaa
