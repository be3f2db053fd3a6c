/-
  Frames, what is in them and their lengths are the document's; what is handed in stays; what is answered is new memory: the statement FrameTells, for any two texts and number. Conditions: none (of more than 3,000 bytes the statement itself asks nothing). The variable 'classes' is as the program's text lays it (the card's tie).
-/
import Derived.Test.YthnjonabofabkaaDoorFrK
import Derived.Test.YthnjonabofabkaaDoorFrO
import Derived.BigRegion
import Derived.OneCell
namespace Go.Proofs.YthnjonabofabkaaDoor
open Go.ChangeShapes Go.WideShapes Go.ChangeAt Go.RowKit Go.Joins
set_option linter.unusedVariables false

theorem u8s_set (l : List UInt8) (j : Nat) (b : UInt8) : (u8s l).set j (.int .u8 (b.toNat : Int)) = u8s (l.set j b) := by simp [u8s, List.map_set]

/-- A slice of the call's own whose bytes may be written: it lies in a block from 'base' on, below 'top'. -/
structure Wr (w : World) (base : Nat) (A : Option Addr) (c n : Nat) (l : List UInt8) : Prop where
  len : l.length = n
  own : Own w base 5 A c l
theorem Wr.block {w : World} {base : Nat} {A : Option Addr} {c n : Nat} {l : List UInt8} (h : Wr w base A c n l) : ∀ g, A = some ⟨g, 0, none⟩ → base ≤ g ∧ g < w.heap.size := fun g hg => h.own.lt g (by rw [hg]; rfl)
theorem Wr.keep {w w' : World} {base : Nat} {A : Option Addr} {c n : Nat} {l : List UInt8} (h : Wr w base A c n l) (hb : Below w.heap.size w w') : Wr w' base A c n l := ⟨h.len, h.own.keep hb⟩
theorem Wr.cap {w : World} {base : Nat} {A : Option Addr} {c n : Nat} {l : List UInt8} (h : Wr w base A c n l) : n ≤ c ∧ c ≤ 9223372036854775807 := by
  have h1 := h.own.rd.len
  rw [h.len] at h1
  exact ⟨h1, h.own.rd.cap⟩
theorem Wr.at_ {w : World} {base : Nat} {A : Option Addr} {c n : Nat} {l : List UInt8} (h : Wr w base A c n l) (j : Nat) (hj : j < n) :
    ∃ (g : Nat) (b : UInt8), A = some ⟨g, 0, none⟩ ∧ base ≤ g ∧ w.cell? ⟨g, j, none⟩ = some (.int .u8 (b.toNat : Int)) ∧ w.frozen? ⟨g, j, none⟩ = false ∧ ∀ v : UInt8, Wr (w.setCell ⟨g, j, none⟩ (.int .u8 (v.toNat : Int))) base A c n (l.set j v) := by
  have hl := h.len
  subst hl
  obtain ⟨g, rfl⟩ := own_form h.own (by omega)
  have hown := h.own
  unfold Own at hown
  refine ⟨g, l[j], rfl, (h.block g rfl).1, ?_, hown.frozenAt j, fun v => ⟨by simp, ?_⟩⟩
  · rw [hown.cellAt j (by omega)]
    simp [u8s, List.getElem?_eq_getElem hj]
  · have h2 := (hown.stored j (.int .u8 (v.toNat : Int))).1
    rw [u8s_set] at h2
    unfold Own
    rw [List.length_set]
    exact h2
theorem Wr.far {w : World} {base : Nat} {A : Option Addr} {c n : Nat} {l : List UInt8} (h : Wr w base A c n l) {a : Addr} (ha : ∀ g, A = some ⟨g, 0, none⟩ → g ≠ a.block) (v : Value) : Wr (w.setCell a v) base A c n l := by
  refine ⟨h.len, ownsRow_setCell_other h.own ?_ v⟩
  intro hv
  rcases h.own.2 with ⟨h1, _⟩ | ⟨g, cap, cur, h1, _⟩
  · injection h1 with e1
    subst e1
    cases hv
  · injection h1 with e1
    subst e1
    injection hv with hv
    exact ha g rfl hv
theorem add_one (b : UInt8) : ((b + 1).toNat : Int) = ((b.toNat : Int) + 1) % 256 := by
  rw [UInt8.toNat_add]
  simp
theorem Rd.past {w : World} {A : Option Addr} {c : Nat} {l : List UInt8} (h : Rd w A c l) : Rd w A c l := h

set_option maxRecDepth 100000 in
set_option maxHeartbeats 8000000 in
theorem ftells_walk (A : Option Addr) (n c : Nat) (l : List UInt8) (B : Option Addr) (m d : Nat) (l' : List UInt8) (z : Int) (hz : -9223372036854775808 ≤ z ∧ z < 9223372036854775808) (w : World) (ht : Tab w) (hr : Hid (l.length = n) ∧ Rd w A c l) (hs : Hid (l'.length = m) ∧ Rd w B d l') :
    Calls Tryd.prog 4 #[.slice A n c, .slice B m d, .int .i64 z] w fun e w' => e = .returned (.bool true) ∧ Below w.heap.size w w' := by
  obtain ⟨HN, hr⟩ := hr
  obtain ⟨HM, hs⟩ := hs
  by_cases hno : (3000 : Int) < (n : Int) ∨ ((n : Int) ≤ 3000 ∧ (3000 : Int) < (m : Int))
  · rcases hno with h1 | ⟨h1, h2⟩
    all_goals
      go_enter Tryd.func4, Tryd.ntmps4
      go_wp2
      go_ret
      exact ⟨rfl, Below.refl _ _⟩
  have g1 : (n : Int) ≤ 3000 := by omega
  have g2 : (m : Int) ≤ 3000 := by omega
  clear hno
  obtain ⟨L1, k1, j1, hS⟩ : ∃ L k j, seB l = L ∧ L.length = k ∧ seE l = j := ⟨_, _, _, rfl, rfl, rfl⟩
  obtain ⟨L2, k2, j2, hO⟩ : ∃ L k j, opB l' = L ∧ L.length = k ∧ opE l' = j := ⟨_, _, _, rfl, rfl, rfl⟩
  obtain ⟨cv, ce, hC⟩ : ∃ v e, clV z = v ∧ clE z = e := ⟨_, _, rfl, rfl⟩
  have HS := hid hS
  have HO := hid hO
  have HC := hid hC
  have HL1 := hid hS.2.1
  have HL2 := hid hO.2.1
  obtain ⟨i0, hi0, hz0, hz1, hz2⟩ := info_parts info_u8
  clear hS hO hC
  go_enter Tryd.func4, Tryd.ntmps4
  go_wp2_with (first
    | (at_builtin; refine wpList_append_rd rfl (.const (.slice none 0 0)) (.tmp 32) 23 rfl w.heap.size 5 Tryd.underlying23 hi0 hz0 hz1 hz2 none 0 0 [] (hid rfl) rfl (Own.nil _ _ _) A n c l HN rfl hr (by omega) (Nat.le_refl _) ?_; intro A1 c1 w1 ho1 b1; rw [List.nil_append] at ho1)
    | (at_builtin; refine wpList_append_rd rfl (.const (.slice none 0 0)) (.tmp 34) 23 rfl w1.heap.size 5 Tryd.underlying23 hi0 hz0 hz1 hz2 none 0 0 [] (hid rfl) rfl (Own.nil _ _ _) B m d l' HM rfl (hs.keep b1) (by omega) (Nat.le_refl _) ?_; intro A2 c2 w2 ho2 b2; rw [List.nil_append] at ho2))
  have hb := b1.trans (b2.mono b1.size)
  have r1 := ho1.rd.keep b2
  have r2 := ho2.rd
  replace hr := hr.keep hb
  replace hs := hs.keep hb
  replace ht := ht.keep hb
  have h0 := Below.refl w2.heap.size w2
  clear ho1 ho2 b1 b2
  refine (seal_of L1 k1 j1 A1 n c1 l HN HS _ r1 ht).mono ?_
  rintro e w3 ⟨A3, c3, rfl, ho3, b3⟩
  have x3 : Wr w3 w2.heap.size A3 c3 k1 L1 := ⟨HL1.out, ho3⟩
  replace h0 := below_in h0 b3
  clear ho3 b3
  go_wp2_with fail
  refine (rseal_of L1 k1 j1 A n c l HN HS _ (hr.keep h0)).mono ?_
  rintro e w4 ⟨A4, c4, rfl, ho4, b4⟩
  have r4 := ho4.rd
  replace x3 := x3.keep b4
  replace h0 := below_in h0 b4
  clear ho4 b4
  go_wp2_with fail
  refine (open_of L2 k2 j2 A2 m c2 l' HM HO _ (r2.keep h0) (ht.keep h0)).mono ?_
  rintro e w5 ⟨A5, c5, rfl, ho5, b5⟩
  have x5 : Wr w5 w4.heap.size A5 c5 k2 L2 := ⟨HL2.out, ho5⟩
  have hx3 : Hid (∀ g, A3 = some ⟨g, 0, none⟩ → g < w4.heap.size) := hid fun g hg => (x3.block g hg).2
  have h4 := h0.size
  replace x3 := x3.keep b5
  replace r4 := r4.keep b5
  replace h0 := below_in h0 b5
  clear ho5 b5
  go_wp2_with fail
  refine (ropen_of L2 k2 j2 B m d l' HM HO _ (hs.keep h0)).mono ?_
  rintro e w6 ⟨A6, c6, rfl, ho6, b6⟩
  have r6 := ho6.rd
  replace x3 := x3.keep b6
  replace x5 := x5.keep b6
  replace r4 := r4.keep b6
  replace h0 := below_in h0 b6
  clear ho6 b6
  go_wp2_with fail
  refine (class_of z cv ce HC _ (ht.keep h0)).mono ?_
  rintro e w7 ⟨rfl, rfl⟩
  go_wp2_with fail
  refine (rclass_of z cv ce HC _).mono ?_
  rintro e w7 ⟨rfl, b7⟩
  replace x3 := x3.keep b7
  replace x5 := x5.keep b7
  replace r4 := r4.keep b7
  replace r6 := r6.keep b7
  replace h0 := below_in h0 b7
  have s3 := rd_string HL1 x3.own.rd
  have s4 := rd_string HL1 r4
  have s5 := rd_string HL2 x5.own.rd
  have s6 := rd_string HL2 r6
  clear b7 HS HO HC r4 r6 ht hi0 hz0 hz1 hz2
  go_wp2_with fail
  clear s3 s4 s5 s6
  have hz5 := x5.cap
  have hz3 := x3.cap
  have h5a : (k2 : Int) ≤ (c5 : Int) := by omega
  have h5b : (c5 : Int) ≤ 9223372036854775807 := by omega
  have h3a : (k1 : Int) ≤ (c3 : Int) := by omega
  have h3b : (c3 : Int) ≤ 9223372036854775807 := by omega
  clear hz5 hz3
  go_loopw [22] (fun i wr => ∃ (j : Nat) (ls : List UInt8), j ≤ k2 ∧ i = .int .i64 (j : Int) ∧ Hid (Wr wr w4.heap.size A5 c5 k2 ls ∧ Wr wr w2.heap.size A3 c3 k1 L1 ∧ Below w2.heap.size w2 wr)) (fun i _ => k2 - (intOf i).toNat)
  case atStart => exact ⟨0, L2, by omega, rfl, hid ⟨x5, x3, h0⟩⟩
  case round =>
    clear x5 x3 h0
    obtain ⟨j, ls, hj, rfl, HW⟩ := hrel
    by_cases hlt : j < k2
    · obtain ⟨g, b, rfl, hg, q0, f0, hw⟩ := HW.out.1.at_ j hlt
      have hlt2 : (j : Int) < (k2 : Int) := by omega
      have hb255 : (b.toNat : Int) ≤ 255 := by have := b.toNat_lt; omega
      have HWR := hid (hw (b + 1))
      have HX3 := hid (HW.out.2.1.far (a := ⟨g, j, none⟩) (fun g' hg' => by have := hx3.out g' hg'; show g' ≠ g; omega) (.int .u8 ((b + 1).toNat : Int)))
      have HB := hid (HW.out.2.2.setCell (p := ⟨g, j, none⟩) (by show _ ≤ g; omega) (.int .u8 ((b + 1).toNat : Int)))
      rw [add_one] at HWR HX3 HB
      clear hw HW hg
      go_wp2
      go_roundw
      case rel => exact ⟨j + 1, _, by omega, by go_num, hid ⟨HWR.out, HX3.out, HB.out⟩⟩
      case measure => simp [intOf]; omega
    · have hlt2 : ¬ (j : Int) < (k2 : Int) := by omega
      have HW2 := hid (show Wr wr w2.heap.size A3 c3 k1 L1 ∧ Below w2.heap.size w2 wr from HW.out.2)
      clear HW hj hlt
      go_wp2_with fail
      go_loopw [23] (fun i wr => ∃ (j : Nat) (ls : List UInt8), j ≤ k1 ∧ i = .int .i64 (j : Int) ∧ Hid (Wr wr w2.heap.size A3 c3 k1 ls ∧ Below w2.heap.size w2 wr)) (fun i _ => k1 - (intOf i).toNat)
      case atStart => exact ⟨0, L1, by omega, rfl, HW2⟩
      case round =>
        clear HW2
        obtain ⟨i, ls, hi, rfl, HW⟩ := hrel
        by_cases hlt : i < k1
        · obtain ⟨g, b, rfl, hg, q0, f0, hw⟩ := HW.out.1.at_ i hlt
          have hlt2 : (i : Int) < (k1 : Int) := by omega
          have hb255 : (b.toNat : Int) ≤ 255 := by have := b.toNat_lt; omega
          have HWR := hid (hw (b + 1))
          have HB := hid (HW.out.2.setCell (p := ⟨g, i, none⟩) hg (.int .u8 ((b + 1).toNat : Int)))
          rw [add_one] at HWR HB
          clear hw HW hg hx3
          go_wp2
          go_roundw
          case rel => exact ⟨i + 1, _, by omega, by go_num, hid ⟨HWR.out, HB.out⟩⟩
          case measure => simp [intOf]; omega
        · have hlt2 : ¬ (i : Int) < (k1 : Int) := by omega
          have hbw := HW.out.2
          have s1 := rd_string HN (r1.keep hbw)
          have s2 := rd_string HN (hr.keep hbw)
          have s3 := rd_string HM (r2.keep hbw)
          have s4 := rd_string HM (hs.keep hbw)
          have hfin := below_in hb hbw
          clear HW hi hlt hx3 r1 r2 hr hs
          go_wp2
          go_ret
          exact ⟨rfl, hfin⟩


set_option maxRecDepth 100000 in
theorem ftells_lifted (os : Os) (started : os.Started) (H : Type) (enc : TypeId × Value → H) :
    ReturnsInHanded {} Tryd.checked os 4 .any (fun w args => (Rows.frameTellsSpec.pre enc Tryd.prog Tryd.f4 [] false w args ∧ laidMetH Tryd.prog laidV w) ∧ sizedMet enc Tryd.prog Tryd.f4 (OpenSpec.ofChange Rows.frameTellsSpec) false w args) (Rows.frameTellsSpec.post enc Tryd.prog Tryd.f4 false true false false) := by
  refine returnsInHanded_of_change_and (C := Tryd.checked) (X := fun w _ => laidMetH Tryd.prog laidV w) (fun _ _ _ hh h => h.of_heap hh) own started (by kernel_rfl) Tryd.func4
    (ChangeSpec.witness_shaped (enc := enc) (C := Tryd.checked) (os := os) (X := fun w _ => laidMetH Tryd.prog laidV w) false (World.doorLaid Tryd.prog 400 os) #[.slice none 0 0, .slice none 0 0, .int .i64 0] 8 rfl (World.shaped_of_RefB (by kernel_rfl) (by kernel_rfl)) (by kernel_rfl) (by kernel_rfl) (by kernel_rfl) (door_met os _)) ?_
  intro W base args ds gs before hval0 hW _ _ hL _
  have hval : ∀ (j : Nat) t v, Tryd.f4.params[j]? = some t → args[j]? = some v → Value.okWide Tryd.prog W .any base t v := hval0
  have hW' := hW
  obtain ⟨p, q, hA0, hV, rfl, _, _⟩ := hW
  have hA : DataW.TrodAll enc Tryd.prog W 0 (fun _ => true) true Tryd.f4.params.toList args.toList ds p := hA0
  rw [Tryd.params4] at hA hval
  obtain ⟨v0, v1, v2, d0, d1, d2, p0, p1, p2, rfl, rfl, rfl, h0, h1, h2⟩ := trodAll_three hA
  obtain ⟨rfl, rfl⟩ := trodVars_none hV
  obtain ⟨A, n, c, l, rfl, hr⟩ := open_bytes (hval 0 _ v0 rfl rfl) h0
  obtain ⟨B, m, d, l', rfl, hs⟩ := open_bytes (hval 1 _ v1 rfl rfl) h1
  obtain ⟨z, rfl, hz⟩ := open_i64 (hval 2 _ v2 rfl rfl) h2
  refine (ftells_walk A n c l B m d l' z hz W (tab_of hL) hr hs).mono fun e W' ⟨he, hg⟩ => ?_
  subst he
  exact ⟨_, rfl, law_post laidOut (by kernel_rfl) rfl Tryd.underlying4 rfl rfl hW' hg⟩

theorem ftells_holds : Rows.FrameTellsSaid :=
  OpenClaim.holds_of_wide 4 Tryd.f4 rfl rfl rfl rfl rfl rfl rfl ⟨rfl, rfl, rfl, rfl, rfl⟩ rfl rfl rfl rfl rfl (by kernel_rfl) Tryd.func4 (by kernel_rfl)
    (of_decide_eq_true (by kernel_rfl)) (by unfold Func.isWrapper; rw [if_neg (of_decide_eq_false (by kernel_rfl))]; exact ⟨rfl, rfl⟩)
    (fun os started H enc _ => ftells_lifted os started H enc)

theorem ftells_card : Rows.FrameTellsCardSaid :=
  Claim7.holds_tied_plain_at .later [] [.data] true Rows.frameTellsCard.stood.harness Rows.frameTellsCard.stood.looks
    ftells_holds (fun _ h => by cases h) (by kernel_rfl) (fun _ h => by cases h) frameTells_row_tie rfl ⟨rfl, rfl⟩ (by kernel_rfl) rfl
    (fun f fn hf hfn => by
      obtain rfl : f = 4 := Option.some.inj ((show Tryd.prog.funcNamed "blindstamp/blindstamplaw08.FrameTells" = some 4 by kernel_rfl).symm.trans hf) |>.symm
      obtain rfl : fn = Tryd.f4 := (Option.some.inj (Tryd.func4.symm.trans hfn)).symm
      exact ⟨by kernel_rfl, fun j t ht => by
        have hall : (Tryd.f4.params.toList.all fun u => !Tryd.prog.wantsStandIn u) = true := by kernel_rfl
        exact (show Tryd.prog.wantsStandIn t = false by simpa using List.all_eq_true.1 hall t (Array.mem_toList_iff.2 (Array.mem_of_getElem? ht)))⟩)
    (by kernel_rfl)
#print axioms ftells_card
end Go.Proofs.YthnjonabofabkaaDoor
