/-
  A number's bytes and size, and the number of bytes, are the document's: the statement NumTells, for every number and all bytes.
-/
import Derived.Test.YtddhbcpohedbnaaNumK
import Derived.Test.YtddhbcpohedbnaaNumG
namespace Go.Proofs.Ytddhbcpohedbnaa
open Go.ChangeShapes Go.WideShapes Go.ChangeAt Go.RowKit Go.Joins
set_option linter.unusedVariables false

theorem refget_of (x y z : Int) (A : Option Addr) (n c : Nat) (l : List UInt8) (hn : Hid (l.length = n)) (h : Hid (gN l = x ∧ gS l = y ∧ gE l = z)) (w : World) (hr : Rd w A c l) :
    Calls Try.prog 13 #[.slice A n c] w fun e w' => e = .returned (.tuple #[.int .i64 x, .int .i64 y, .int .i64 z]) ∧ Below w.heap.size w w' := by
  obtain ⟨rfl, rfl, rfl⟩ := h.out
  exact refget_any A n c l hn w hr

set_option maxHeartbeats 1000000 in
theorem ntells_walk (n : Int) (A : Option Addr) (k c : Nat) (l : List UInt8) (hn : -9223372036854775808 ≤ n ∧ n < 9223372036854775808) (w : World) (hr : Hid (l.length = k) ∧ Rd w A c l) :
    Calls Try.prog 4 #[.int .i64 n, .slice A k c] w fun e w' => e = .returned (.bool true) ∧ Below w.heap.size w w' := by
  clear hn
  obtain ⟨HK, hr⟩ := hr
  by_cases hbig : 10000 < k
  · have hb2 : (10000 : Int) < (k : Int) := by omega
    go_enter Try.func4, Try.ntmps4
    go_wp2
    go_ret
    exact ⟨rfl, Below.refl _ _⟩
  have hk2 : (k : Int) ≤ 10000 := by omega
  clear hbig
  obtain ⟨lp, kp, q, h1⟩ : ∃ lp kp q, putB n = lp ∧ lp.length = kp ∧ putE n = q := ⟨_, _, _, rfl, rfl, rfl⟩
  obtain ⟨x, y, z, h2⟩ : ∃ x y z, gN l = x ∧ gS l = y ∧ gE l = z := ⟨_, _, _, rfl, rfl, rfl⟩
  obtain ⟨j, h3⟩ : ∃ j, sz n = j := ⟨_, rfl⟩
  have H1 := hid h1
  have HP := hid h1.2.1
  have H2 := hid h2
  have H3 := hid h3
  clear h1 h2 h3
  have s0 := rd_string HK hr
  go_enter Try.func4, Try.ntmps4
  go_wp2_with fail
  clear s0
  refine (put_of n lp kp q H1 _).mono ?_
  rintro e w1 ⟨A1, c1, rfl, r1, b1⟩
  replace hr := hr.keep b1
  go_wp2_with fail
  refine (refput_of n lp kp q H1 _).mono ?_
  rintro e w2 ⟨A2, c2, rfl, r2, b2⟩
  replace hr := hr.keep b2
  replace r1 := r1.keep b2
  replace b1 := b1.trans (b2.mono b1.size)
  clear b2
  go_wp2_with fail
  refine (get_of x y z A k c l HK H2 _ hr).mono ?_
  rintro e w3 ⟨rfl, rfl⟩
  go_wp2_with fail
  refine (refget_of x y z A k c l HK H2 _ hr).mono ?_
  rintro e w4 ⟨rfl, b4⟩
  replace hr := hr.keep b4
  replace r1 := r1.keep b4
  replace r2 := r2.keep b4
  replace b1 := b1.trans (b4.mono b1.size)
  clear b4
  have s1 := rd_string HP r1
  have s2 := rd_string HP r2
  go_wp2_with fail
  clear s1 s2
  refine (size_of n j H3 _).mono ?_
  rintro e w5 ⟨rfl, rfl⟩
  go_wp2_with fail
  refine (refsize_of n j H3 _).mono ?_
  rintro e w6 ⟨rfl, b6⟩
  replace hr := hr.keep b6
  replace b1 := b1.trans (b6.mono b1.size)
  clear b6
  have s3 := rd_string HK hr
  go_wp2
  go_ret
  exact ⟨rfl, b1⟩

set_option maxRecDepth 100000 in
theorem ntells_lifted (os : Os) (started : os.Started) (H : Type) (enc : TypeId × Value → H) :
    ReturnsInHanded {} Try.checked os 4 .any (Rows.numTellsSpec.pre6 enc Try.prog Try.f4 Rows.numTellsRow.domain false) (Rows.numTellsSpec.post enc Try.prog Try.f4 false true false false) := by
  refine returnsInHanded_of_change (C := Try.checked) own started (by kernel_rfl) Try.func4
    (ChangeSpec.witness6 (enc := enc) (C := Try.checked) false ⟨#[], #[.int .i64 0, .slice none 0 0], []⟩ 8 (by kernel_rfl) (by kernel_rfl) (by kernel_rfl) (by kernel_rfl)) ?_
  intro W base args ds gs before hval0 hW _ _
  have hval : ∀ (j : Nat) t v, Try.f4.params[j]? = some t → args[j]? = some v → Value.okWide Try.prog W .any base t v := hval0
  have hW' := hW
  obtain ⟨p, q, hA0, hV, rfl, _, _⟩ := hW
  have hA : DataW.TrodAll enc Try.prog W 0 (fun _ => true) true Try.f4.params.toList args.toList ds p := hA0
  rw [Try.params4] at hA hval
  obtain ⟨v0, v1, d0, d1, p0, p1, rfl, rfl, rfl, h0, h1⟩ := trodAll_two hA
  obtain ⟨rfl, rfl⟩ := trodVars_none hV
  obtain ⟨n, rfl, hn⟩ := open_i64 (hval 0 _ v0 rfl rfl) h0
  obtain ⟨A, k, c, l, rfl, hr⟩ := open_bytes (hval 1 _ v1 rfl rfl) h1
  refine (ntells_walk n A k c l hn W hr).mono fun e W' ⟨he, hg⟩ => ?_
  subst he
  exact ⟨_, rfl, law_post laidOut (by kernel_rfl) rfl Try.underlying4 rfl rfl hW' hg⟩

theorem ntells_holds : Rows.NumTellsSaid :=
  OpenClaim.holds_of_wide 4 Try.f4 rfl rfl rfl rfl rfl rfl rfl ⟨rfl, rfl, rfl, rfl, rfl⟩ rfl rfl rfl rfl rfl (by kernel_rfl) Try.func4 (by kernel_rfl)
    (of_decide_eq_true (by kernel_rfl)) (by unfold Func.isWrapper; rw [if_neg (of_decide_eq_false (by kernel_rfl))]; exact ⟨rfl, rfl⟩)
    (fun os started H enc _ => ntells_lifted os started H enc)
#print axioms ntells_holds
end Go.Proofs.Ytddhbcpohedbnaa
