/-
  Two bodies of as many bytes have frames of one length, that of their class, which is greater than the body: the statement FrameLong, for any two bodies (the shorter one's length counts). Conditions: none (of more than 1,000 bytes the statement itself asks nothing but its example). The variable 'classes' is as the program's text lays it (the card's tie).
-/
import Derived.Test.YthnjonabofabkaaDoorFrK
namespace Go.Proofs.YthnjonabofabkaaDoor
open Go.ChangeShapes Go.WideShapes Go.ChangeAt Go.RowKit Go.Joins
set_option linter.unusedVariables false

theorem cl_more {n : Nat} (h : n ≤ 1000) : (n : Int) < (cl n : Int) := by
  have := cl_room h
  omega

set_option maxRecDepth 100000 in
set_option maxHeartbeats 2000000 in
theorem flong_walk (A : Option Addr) (k c : Nat) (l : List UInt8) (B : Option Addr) (m d : Nat) (l' : List UInt8) (w : World) (ht : Tab w) (hr : Hid (l.length = k) ∧ Rd w A c l) (hs : Hid (l'.length = m) ∧ Rd w B d l') :
    Calls Tryd.prog 6 #[.slice A k c, .slice B m d] w fun e w' => e = .returned (.bool true) ∧ Below w.heap.size w w' := by
  obtain ⟨HK, hr⟩ := hr
  obtain ⟨HM, hs⟩ := hs
  obtain ⟨n, hn⟩ : ∃ n : Nat, min k m = n := ⟨_, rfl⟩
  have hkc : k ≤ c := by have := hr.len; rw [HK.out] at this; exact this
  have hmd : m ≤ d := by have := hs.len; rw [HM.out] at this; exact this
  have hcm : c ≤ 9223372036854775807 := hr.cap
  have hdm : d ≤ 9223372036854775807 := hs.cap
  have hnk : n ≤ k := by omega
  have hnm : n ≤ m := by omega
  have hmin : ∀ (ts : Array TypeId) (ty : TypeId) (W : World), (Builtin.min_ ts ty #[.int .i64 (k : Int), .int .i64 (m : Int)]).run Tryd.prog W = .ok (.int .i64 (n : Int)) W := fun ts ty W => by
    rw [run_min_int2]
    congr 2
    omega
  clear hn
  by_cases hbig : 1000 < n
  · have hb2 : (1000 : Int) < (n : Int) := by omega
    go_enter Tryd.func6, Tryd.ntmps6
    go_wp2_with fail
    refine (alive_any _ ht).mono ?_
    rintro x w1 ⟨rfl, b1⟩
    go_wp2_with fail
    go_ret
    exact ⟨rfl, b1⟩
  have hn1 : (n : Int) ≤ 1000 := by omega
  have hn2 : n ≤ 1000 := by omega
  obtain ⟨z, hz⟩ : ∃ z, cl n = z := ⟨_, rfl⟩
  have hzn : (n : Int) < (z : Int) := by rw [← hz]; exact cl_more hn2
  have HN1 := hid (show (l.take n).length = n by rw [List.length_take, HK.out]; omega)
  have HN2 := hid (show (l'.take n).length = n by rw [List.length_take, HM.out]; omega)
  have se : ∀ p : List UInt8, Hid (p.length = n) → Hid (seB p = fr p ∧ (fr p).length = z ∧ seE p = 0) := fun p hp => by
    have h := se_yes (l := p) (by rw [hp.out]; exact hn2)
    rw [hp.out, hz] at h
    exact h
  have S1 := se _ HN1
  have S2 := se _ HN2
  have HC := hid (show clV (n : Int) = (z : Int) ∧ clE (n : Int) = 0 by rw [← hz]; exact cl_yes hn2)
  clear hz se
  go_enter Tryd.func6, Tryd.ntmps6
  go_wp2_with fail
  refine (alive_any _ ht).mono ?_
  rintro x w1 ⟨rfl, b1⟩
  go_wp2_with fail
  refine (seal_of _ z 0 A n c (l.take n) HN1 S1 _ ((hr.keep b1).take n) (ht.keep b1)).mono ?_
  rintro e w2 ⟨A2, c2, rfl, hown2, b2⟩
  replace b2 := b1.trans (b2.mono b1.size)
  clear b1 hown2
  go_wp2_with fail
  refine (seal_of _ z 0 B n d (l'.take n) HN2 S2 _ ((hs.keep b2).take n) (ht.keep b2)).mono ?_
  rintro e w3 ⟨A3, c3, rfl, hown3, b3⟩
  replace b3 := b2.trans (b3.mono b2.size)
  clear b2 hown3
  go_wp2_with fail
  refine (class_of (n : Int) (z : Int) 0 HC _ (ht.keep b3)).mono ?_
  rintro e w4 ⟨rfl, rfl⟩
  clear S1 S2 HN1 HN2 hr hs ht HK HM
  go_wp2
  go_ret
  exact ⟨rfl, b3⟩


set_option maxRecDepth 100000 in
theorem flong_lifted (os : Os) (started : os.Started) (H : Type) (enc : TypeId × Value → H) :
    ReturnsInHanded {} Tryd.checked os 6 .any (fun w args => (Rows.frameLongSpec.pre enc Tryd.prog Tryd.f6 [] false w args ∧ laidMetH Tryd.prog laidV w) ∧ sizedMet enc Tryd.prog Tryd.f6 (OpenSpec.ofChange Rows.frameLongSpec) false w args) (Rows.frameLongSpec.post enc Tryd.prog Tryd.f6 false true false false) := by
  refine returnsInHanded_of_change_and (C := Tryd.checked) (X := fun w _ => laidMetH Tryd.prog laidV w) (fun _ _ _ hh h => h.of_heap hh) own started (by kernel_rfl) Tryd.func6
    (ChangeSpec.witness_shaped (enc := enc) (C := Tryd.checked) (os := os) (X := fun w _ => laidMetH Tryd.prog laidV w) false (World.doorLaid Tryd.prog 400 os) #[.slice none 0 0, .slice none 0 0] 8 rfl (World.shaped_of_RefB (by kernel_rfl) (by kernel_rfl)) (by kernel_rfl) (by kernel_rfl) (by kernel_rfl) (door_met os _)) ?_
  intro W base args ds gs before hval0 hW _ _ hL _
  have hval : ∀ (j : Nat) t v, Tryd.f6.params[j]? = some t → args[j]? = some v → Value.okWide Tryd.prog W .any base t v := hval0
  have hW' := hW
  obtain ⟨p, q, hA0, hV, rfl, _, _⟩ := hW
  have hA : DataW.TrodAll enc Tryd.prog W 0 (fun _ => true) true Tryd.f6.params.toList args.toList ds p := hA0
  rw [Tryd.params6] at hA hval
  obtain ⟨v0, v1, d0, d1, p0, p1, rfl, rfl, rfl, h0, h1⟩ := trodAll_two hA
  obtain ⟨rfl, rfl⟩ := trodVars_none hV
  obtain ⟨A, k, c, l, rfl, hr⟩ := open_bytes (hval 0 _ v0 rfl rfl) h0
  obtain ⟨B, m, d, l', rfl, hs⟩ := open_bytes (hval 1 _ v1 rfl rfl) h1
  refine (flong_walk A k c l B m d l' W (tab_of hL) hr hs).mono fun e W' ⟨he, hg⟩ => ?_
  subst he
  exact ⟨_, rfl, law_post laidOut (by kernel_rfl) rfl Tryd.underlying4 rfl rfl hW' hg⟩

theorem flong_holds : Rows.FrameLongSaid :=
  OpenClaim.holds_of_wide 6 Tryd.f6 rfl rfl rfl rfl rfl rfl rfl ⟨rfl, rfl, rfl, rfl, rfl⟩ rfl rfl rfl rfl rfl (by kernel_rfl) Tryd.func6 (by kernel_rfl)
    (of_decide_eq_true (by kernel_rfl)) (by unfold Func.isWrapper; rw [if_neg (of_decide_eq_false (by kernel_rfl))]; exact ⟨rfl, rfl⟩)
    (fun os started H enc _ => flong_lifted os started H enc)

theorem flong_card : Rows.FrameLongCardSaid :=
  Claim7.holds_tied_plain_at .later [] [.data] true Rows.frameLongCard.stood.harness Rows.frameLongCard.stood.looks
    flong_holds (fun _ h => by cases h) (by kernel_rfl) (fun _ h => by cases h) frameLong_row_tie rfl ⟨rfl, rfl⟩ (by kernel_rfl) rfl
    (fun f fn hf hfn => by
      obtain rfl : f = 6 := Option.some.inj ((show Tryd.prog.funcNamed "blindstamp/blindstamplaw08.FrameLong" = some 6 by kernel_rfl).symm.trans hf) |>.symm
      obtain rfl : fn = Tryd.f6 := (Option.some.inj (Tryd.func6.symm.trans hfn)).symm
      exact ⟨by kernel_rfl, fun j t ht => by
        have hall : (Tryd.f6.params.toList.all fun u => !Tryd.prog.wantsStandIn u) = true := by kernel_rfl
        exact (show Tryd.prog.wantsStandIn t = false by simpa using List.all_eq_true.1 hall t (Array.mem_toList_iff.2 (Array.mem_of_getElem? ht)))⟩)
    (by kernel_rfl)
#print axioms flong_card
end Go.Proofs.YthnjonabofabkaaDoor
