/-
  What is sealed is opened, and what is opened is sealed as just these bytes: the statement FrameBack, for any bytes. Conditions: none (of more than 3,000 bytes the statement itself asks nothing but its example). The variable 'classes' is as the program's text lays it (the card's tie).
-/
import Derived.Test.YthnjonabofabkaaDoorFrK
namespace Go.Proofs.YthnjonabofabkaaDoor
open Go.ChangeShapes Go.WideShapes Go.ChangeAt Go.RowKit Go.Joins
set_option linter.unusedVariables false

theorem op_fr {l : List UInt8} {n : Nat} (hn : l.length = n) (h : l.length ≤ 1000) : opB (fr l) = l ∧ l.length = n ∧ opE (fr l) = 0 := by
  have e := op_yes (opP_fr h)
  exact ⟨e.1, hn, e.2.2⟩
theorem op_two (l : List UInt8) (n : Nat) (hn : l.length = n) : (opB l = [] ∧ ([] : List UInt8).length = 0 ∧ opE l = 80) ∨ ∃ (m : List UInt8) (q : Nat), (opB l = m ∧ m.length = q ∧ opE l = 0) ∧ m.length = q ∧ (seB m = l ∧ l.length = n ∧ seE m = 0) := by
  match h : opP l with
  | none => exact .inl (op_no h)
  | some m =>
    obtain ⟨h1, h2⟩ := opP_some h
    have e := se_yes h1
    refine .inr ⟨m, m.length, op_yes h, rfl, by rw [e.1, h2], hn, e.2.2⟩

set_option maxRecDepth 100000 in
set_option maxHeartbeats 2000000 in
theorem fback_walk (A : Option Addr) (n c : Nat) (l : List UInt8) (w : World) (ht : Tab w) (hr : Hid (l.length = n) ∧ Rd w A c l) :
    Calls Tryd.prog 5 #[.slice A n c] w fun e w' => e = .returned (.bool true) ∧ Below w.heap.size w w' := by
  obtain ⟨hn, hr⟩ := hr
  by_cases hbig : 3000 < n
  · have hb2 : (3000 : Int) < (n : Int) := by omega
    go_enter Tryd.func5, Tryd.ntmps5
    go_wp2_with fail
    refine (alive_any _ ht).mono ?_
    rintro x w1 ⟨rfl, b1⟩
    go_wp2_with fail
    go_ret
    exact ⟨rfl, b1⟩
  have hn3 : (n : Int) ≤ 3000 := by omega
  have HO := hid (op_two l n hn.out)
  clear hbig
  go_enter Tryd.func5, Tryd.ntmps5
  go_wp2_with fail
  refine (alive_any _ ht).mono ?_
  rintro x w1 ⟨rfl, hb⟩
  go_wp2_with fail
  by_cases h : n ≤ 1000
  case' pos =>
    obtain ⟨z, hz⟩ : ∃ z, cl l.length = z := ⟨_, rfl⟩
    have hl : l.length ≤ 1000 := by rw [hn.out]; exact h
    have HS := hid (show seB l = fr l ∧ (fr l).length = z ∧ seE l = 0 by rw [← hz]; exact se_yes hl)
    have HF := hid HS.out.2.1
    have HP := hid (op_fr hn.out hl)
    have h2 : (n : Int) ≤ 1000 := by omega
    generalize fr l = F at HS HF HP
    clear hz hl h
    refine (seal_of F z 0 A n c l hn HS _ (hr.keep hb) (ht.keep hb)).mono ?_
    rintro e w2 ⟨A2, c2, rfl, hown2, b2⟩
    replace hb := below_in hb b2
    clear b2
    go_wp2_with fail
    refine (open_of l n 0 A2 z c2 F HF HP _ hown2.rd (ht.keep hb)).mono ?_
    rintro e w3 ⟨A3, c3, rfl, hown3, b3⟩
    replace hb := below_in hb b3
    have s1 := rd_string hn hown3.rd
    have s2 := rd_string hn (hr.keep hb)
    clear b3 HS HF HP hown2 hown3
    go_wp2_with fail
    clear s1 s2
  case' neg =>
    have HS := hid (se_no (l := l) (by rw [hn.out]; exact h))
    have h2 : ¬ (n : Int) ≤ 1000 := by omega
    have h3 : (decide ((n : Int) ≤ 1000)) = false := by simpa using h2
    clear h
    refine (seal_of [] 0 4 A n c l hn HS _ (hr.keep hb) (ht.keep hb)).mono ?_
    rintro e w2 ⟨A2, c2, rfl, hown2, b2⟩
    replace hb := below_in hb b2
    clear b2 HS hown2
    go_wp2_with fail
  all_goals
    rcases HO.out with h1 | ⟨m, q, h1, h4, h5⟩
    · have H1 := hid h1
      clear h1 HO
      refine (open_of [] 0 80 A n c l hn H1 _ (hr.keep hb) (ht.keep hb)).mono ?_
      rintro e w4 ⟨A4, c4, rfl, hown4, b4⟩
      replace hb := below_in hb b4
      clear b4 hown4 H1
      go_wp2
      go_ret
      exact ⟨rfl, hb⟩
    · have H1 := hid h1
      have H4 := hid h4
      have H5 := hid h5
      clear h1 h4 h5 HO
      refine (open_of m q 0 A n c l hn H1 _ (hr.keep hb) (ht.keep hb)).mono ?_
      rintro e w4 ⟨A4, c4, rfl, hown4, b4⟩
      replace hb := below_in hb b4
      clear b4 H1
      go_wp2_with fail
      refine (seal_of l n 0 A4 q c4 m H4 H5 _ hown4.rd (ht.keep hb)).mono ?_
      rintro e w5 ⟨A5, c5, rfl, hown5, b5⟩
      replace hb := below_in hb b5
      have s1 := rd_string hn hown5.rd
      have s2 := rd_string hn (hr.keep hb)
      clear b5 H4 H5 hown4 hown5
      go_wp2
      go_ret
      exact ⟨rfl, hb⟩


set_option maxRecDepth 100000 in
theorem fback_lifted (os : Os) (started : os.Started) (H : Type) (enc : TypeId × Value → H) :
    ReturnsInHanded {} Tryd.checked os 5 .any (fun w args => (Rows.frameBackSpec.pre enc Tryd.prog Tryd.f5 [] false w args ∧ laidMetH Tryd.prog laidV w) ∧ sizedMet enc Tryd.prog Tryd.f5 (OpenSpec.ofChange Rows.frameBackSpec) false w args) (Rows.frameBackSpec.post enc Tryd.prog Tryd.f5 false true false false) := by
  refine returnsInHanded_of_change_and (C := Tryd.checked) (X := fun w _ => laidMetH Tryd.prog laidV w) (fun _ _ _ hh h => h.of_heap hh) own started (by kernel_rfl) Tryd.func5
    (ChangeSpec.witness_shaped (enc := enc) (C := Tryd.checked) (os := os) (X := fun w _ => laidMetH Tryd.prog laidV w) false (World.doorLaid Tryd.prog 400 os) #[.slice none 0 0] 8 rfl (World.shaped_of_RefB (by kernel_rfl) (by kernel_rfl)) (by kernel_rfl) (by kernel_rfl) (by kernel_rfl) (door_met os _)) ?_
  intro W base args ds gs before hval0 hW _ _ hL _
  have hval : ∀ (j : Nat) t v, Tryd.f5.params[j]? = some t → args[j]? = some v → Value.okWide Tryd.prog W .any base t v := hval0
  have hW' := hW
  obtain ⟨p, q, hA0, hV, rfl, _, _⟩ := hW
  have hA : DataW.TrodAll enc Tryd.prog W 0 (fun _ => true) true Tryd.f5.params.toList args.toList ds p := hA0
  rw [Tryd.params5] at hA hval
  obtain ⟨v0, d0, rfl, rfl, h0⟩ := trodAll_one hA
  obtain ⟨rfl, rfl⟩ := trodVars_none hV
  obtain ⟨A, n, c, l, rfl, hr⟩ := open_bytes (hval 0 _ v0 rfl rfl) h0
  refine (fback_walk A n c l W (tab_of hL) hr).mono fun e W' ⟨he, hg⟩ => ?_
  subst he
  exact ⟨_, rfl, law_post laidOut (by kernel_rfl) rfl Tryd.underlying4 rfl rfl hW' hg⟩

theorem fback_holds : Rows.FrameBackSaid :=
  OpenClaim.holds_of_wide 5 Tryd.f5 rfl rfl rfl rfl rfl rfl rfl ⟨rfl, rfl, rfl, rfl, rfl⟩ rfl rfl rfl rfl rfl (by kernel_rfl) Tryd.func5 (by kernel_rfl)
    (of_decide_eq_true (by kernel_rfl)) (by unfold Func.isWrapper; rw [if_neg (of_decide_eq_false (by kernel_rfl))]; exact ⟨rfl, rfl⟩)
    (fun os started H enc _ => fback_lifted os started H enc)

theorem fback_card : Rows.FrameBackCardSaid :=
  Claim7.holds_tied_plain_at .later [] [.data] true Rows.frameBackCard.stood.harness Rows.frameBackCard.stood.looks
    fback_holds (fun _ h => by cases h) (by kernel_rfl) (fun _ h => by cases h) frameBack_row_tie rfl ⟨rfl, rfl⟩ (by kernel_rfl) rfl
    (fun f fn hf hfn => by
      obtain rfl : f = 5 := Option.some.inj ((show Tryd.prog.funcNamed "blindstamp/blindstamplaw08.FrameBack" = some 5 by kernel_rfl).symm.trans hf) |>.symm
      obtain rfl : fn = Tryd.f5 := (Option.some.inj (Tryd.func5.symm.trans hfn)).symm
      exact ⟨by kernel_rfl, fun j t ht => by
        have hall : (Tryd.f5.params.toList.all fun u => !Tryd.prog.wantsStandIn u) = true := by kernel_rfl
        exact (show Tryd.prog.wantsStandIn t = false by simpa using List.all_eq_true.1 hall t (Array.mem_toList_iff.2 (Array.mem_of_getElem? ht)))⟩)
    (by kernel_rfl)
#print axioms fback_card
end Go.Proofs.YthnjonabofabkaaDoor
