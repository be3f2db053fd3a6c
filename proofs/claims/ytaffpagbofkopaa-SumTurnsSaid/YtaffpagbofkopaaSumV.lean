/-
  Where up to three bytes that stand side by side are turned, the sum is another one: the statement SumTurns, for all bytes, every place, and whatever they are turned by. Conditions: none (of more than 10,000 bytes, of a place behind which fewer than three bytes stand, and of three zeros to turn by the statement itself asks nothing but its example).
-/
import Derived.Test.YtaffpagbofkopaaSumK
import Derived.BigRegion
namespace Go.Proofs.Ytaffpagbofkopaa
open Go.ChangeShapes Go.WideShapes Go.ChangeAt Go.RowKit Go.Joins
set_option linter.unusedVariables false

theorem eq_three (w : World) (a b c d e f : Int) : (Op.equalIn 10000 29 (.agg #[.int .u8 a, .int .u8 b, .int .u8 c]) (.agg #[.int .u8 d, .int .u8 e, .int .u8 f])).run Try.prog w = .ok (a == d && b == e && c == f) w := by
  have u5 := Try.underlying5
  have a5 := Try.isAgg5
  have z5 := Try.sizeOf5
  rw [show (10000 : Nat) = 9999 + 1 from rfl, Op.equalIn]
  simp only [Sem.run_bind, run_underlying Try.underlying29, Result.andThen_ok]
  simp only [Std.Legacy.Range.forIn_eq_forIn_range', Std.Legacy.Range.size, Nat.sub_zero, Nat.add_sub_cancel, Nat.div_one, List.range'_succ, List.range'_zero, List.forIn_cons, List.forIn_nil]
  go_simp
  by_cases h1 : a = d <;> by_cases h2 : b = e <;> by_cases h3 : c = f <;> simp [h1, h2, h3]
theorem eql_three (w : World) (a b c d e f : Int) : (binOp .eql 29 (.agg #[.int .u8 a, .int .u8 b, .int .u8 c]) (.agg #[.int .u8 d, .int .u8 e, .int .u8 f])).run Try.prog w = .ok (.bool (a == d && b == e && c == f)) w := by
  rw [run_eql_struct, eq_three]
  rfl

/-- A text of which the first q of three bytes behind p are turned. -/
def tl (p r : List UInt8) (x y z d e f : UInt8) : Nat → List UInt8
  | 0 => p ++ [x, y, z] ++ r
  | 1 => p ++ [x ^^^ d, y, z] ++ r
  | 2 => p ++ [x ^^^ d, y ^^^ e, z] ++ r
  | _ => p ++ [x ^^^ d, y ^^^ e, z ^^^ f] ++ r
theorem tl_length (p r : List UInt8) (x y z d e f : UInt8) (q : Nat) : (tl p r x y z d e f q).length = p.length + 3 + r.length := by
  match q with
  | 0 => simp [tl]; omega
  | 1 => simp [tl]; omega
  | 2 => simp [tl]; omega
  | q + 3 => simp [tl]; omega
theorem tl_step (p r : List UInt8) (x y z d e f : UInt8) (q : Nat) (hq : q < 3) :
    ∃ u v : UInt8, (tl p r x y z d e f q)[p.length + q]? = some u ∧ [d, e, f][q]? = some v ∧ tl p r x y z d e f (q + 1) = (tl p r x y z d e f q).set (p.length + q) (u ^^^ v) := by
  have h : q = 0 ∨ q = 1 ∨ q = 2 := by omega
  rcases h with rfl | rfl | rfl
  · exact ⟨x, d, by simp [tl], rfl, by simp [tl]⟩
  · exact ⟨y, e, by simp [tl], rfl, by simp [tl]⟩
  · exact ⟨z, f, by simp [tl], rfl, by simp [tl]⟩
theorem cut_three (l : List UInt8) (a : Nat) (h : a + 3 ≤ l.length) : ∃ p r x y z, l = p ++ [x, y, z] ++ r ∧ p.length = a := by
  refine ⟨l.take a, l.drop (a + 3), l[a], l[a + 1], l[a + 2], ?_, by rw [List.length_take]; omega⟩
  have e1 : l.drop a = l[a] :: l.drop (a + 1) := List.drop_eq_getElem_cons (by omega)
  have e2 : l.drop (a + 1) = l[a + 1] :: l.drop (a + 2) := List.drop_eq_getElem_cons (by omega)
  have e3 : l.drop (a + 2) = l[a + 2] :: l.drop (a + 3) := List.drop_eq_getElem_cons (by omega)
  rw [e3] at e2
  rw [e2] at e1
  rw [List.append_assoc]
  show l = l.take a ++ l[a] :: l[a + 1] :: l[a + 2] :: l.drop (a + 3)
  rw [← e1, List.take_append_drop]
theorem u8s_set (l : List UInt8) (j : Nat) (b : UInt8) : (u8s l).set j (.int .u8 (b.toNat : Int)) = u8s (l.set j b) := by simp [u8s, List.map_set]

theorem xor_u8 (a c : UInt8) : bits .xor .u8 (a.toNat : Int) (c.toNat : Int) = ((a ^^^ c).toNat : Int) := by
  have ha := a.toNat_lt
  have hc := c.toNat_lt
  have h := Nat.xor_lt_two_pow (n := 8) ha hc
  show IntKind.u8.wrap ((BitVec.ofInt 8 (a.toNat : Int) ^^^ BitVec.ofInt 8 (c.toNat : Int)).toNat : Int) = _
  rw [BitVec.toNat_xor, ofInt_nat ha, ofInt_nat hc, IntKind.wrap_u8, UInt8.toNat_xor]
  omega

set_option maxRecDepth 100000 in
set_option maxHeartbeats 4000000 in
theorem sturns_walk (A : Option Addr) (k c : Nat) (l : List UInt8) (at_ : Int) (d e f : UInt8) (ha : -9223372036854775808 ≤ at_ ∧ at_ < 9223372036854775808) (w : World) (hr : Hid (l.length = k) ∧ Rd w A c l) :
    Calls Try.prog 6 #[.slice A k c, .int .i64 at_, .agg #[.int .u8 (d.toNat : Int), .int .u8 (e.toNat : Int), .int .u8 (f.toNat : Int)]] w fun e w' => e = .returned (.bool true) ∧ Below w.heap.size w w' := by
  obtain ⟨HK, hr⟩ := hr
  obtain ⟨ha0, ha1⟩ := ha
  have hE := eql_three
  by_cases hno : (10000 : Int) < (k : Int) ∨ ((k : Int) ≤ 10000 ∧ at_ < 0) ∨ ((k : Int) ≤ 10000 ∧ 0 ≤ at_ ∧ (k : Int) - 3 < at_) ∨ ((k : Int) ≤ 10000 ∧ 0 ≤ at_ ∧ at_ ≤ (k : Int) - 3 ∧ ((d.toNat : Int) == 0 && (e.toNat : Int) == 0 && (f.toNat : Int) == 0) = true)
  · rcases hno with h1 | ⟨h1, h2⟩ | ⟨h1, h2, h3⟩ | ⟨h1, h2, h3, h4⟩
    all_goals
      go_enter Try.func6, Try.ntmps6
      go_wp2_with fail
      refine (alive_any _).mono ?_
      rintro x w1 ⟨rfl, b1⟩
      have k0 := keep b1 (a := ⟨w.heap.size, 0, none⟩) (v := .int .u8 (d.toNat : Int)) (by simp)
      have k1 := keep b1 (a := ⟨w.heap.size, 1, none⟩) (v := .int .u8 (e.toNat : Int)) (by simp)
      have k2 := keep b1 (a := ⟨w.heap.size, 2, none⟩) (v := .int .u8 (f.toNat : Int)) (by simp)
      go_wp2
      go_ret
      exact ⟨rfl, ((Below.refl _ _).alloc (Nat.le_refl _) _).trans (b1.mono (by simp))⟩
  have g1 : (k : Int) ≤ 10000 := by omega
  have g2 : 0 ≤ at_ := by omega
  have g3 : at_ ≤ (k : Int) - 3 := by omega
  have g4 : ((d.toNat : Int) == 0 && (e.toNat : Int) == 0 && (f.toNat : Int) == 0) = false := by
    cases h : ((d.toNat : Int) == 0 && (e.toNat : Int) == 0 && (f.toNat : Int) == 0)
    · rfl
    · exact absurd (.inr (.inr (.inr ⟨g1, g2, g3, h⟩))) hno
  clear hno
  obtain ⟨a, rfl⟩ : ∃ a : Nat, at_ = (a : Int) := ⟨at_.toNat, by omega⟩
  obtain ⟨p, r, x, y, z, hcut, hp⟩ := cut_three l a (by have := HK.out; omega)
  have h0 : tl p r x y z d e f 0 = l := hcut.symm
  obtain ⟨s1, hs1⟩ : ∃ s, sumOf l = s := ⟨_, rfl⟩
  obtain ⟨s2, hs2⟩ : ∃ s, sumOf (tl p r x y z d e f 3) = s := ⟨_, rfl⟩
  have hne : (s2 != s1) = true := by
    have hq := sm_turned p r first x y z d e f (by
      rintro ⟨h1, h2, h3⟩
      subst h1 h2 h3
      exact absurd g4 (by simp))
    rw [← hs1, ← hs2, hcut, bne_iff_ne]
    exact fun he => hq (Int.ofNat_inj.1 he)
  have HS1 := hid hs1
  have HS2 := hid hs2
  have HL := hid (fun q => tl_length p r x y z d e f q)
  have HST := hid (fun q hq => tl_step p r x y z d e f q hq)
  have H0 := hid h0
  have HP := hid hp
  have hlen := HL.out 0
  rw [h0, HK.out] at hlen
  have hlk := HL.out
  rw [← hlen] at hlk
  have HLK := hid hlk
  have ha3 : a + 3 ≤ k := by omega
  clear hs1 hs2 hcut h0 hp hlen hlk HL ha0 ha1
  obtain ⟨i0, hi0, hz0, hz1, hz2⟩ := info_parts info_u8
  go_enter Try.func6, Try.ntmps6
  go_wp2_with fail
  refine (alive_any _).mono ?_
  rintro x w1 ⟨rfl, b1⟩
  have k0 := keep b1 (a := ⟨w.heap.size, 0, none⟩) (v := .int .u8 (d.toNat : Int)) (by simp)
  have k1 := keep b1 (a := ⟨w.heap.size, 1, none⟩) (v := .int .u8 (e.toNat : Int)) (by simp)
  have k2 := keep b1 (a := ⟨w.heap.size, 2, none⟩) (v := .int .u8 (f.toNat : Int)) (by simp)
  replace b1 := ((Below.refl w.heap.size w).alloc (Nat.le_refl _) _).trans (b1.mono (by simp))
  have bx := hr.keep b1
  go_wp2_with (at_builtin; refine wpList_append_rd rfl (.const (.slice none 0 0)) (.tmp 35) _ rfl w1.heap.size 5 Try.underlying26 hi0 hz0 hz1 hz2 none 0 0 [] (hid rfl) rfl (Own.nil _ _ _) A k c l HK rfl (hr.keep b1) (by omega) (Nat.le_refl _) ?_; intro A3 c3 w3 hown3 b3)
  clear hi0 hz0 hz1 hz2 g4 hE
  rw [List.nil_append] at hown3
  obtain ⟨g, hgA⟩ : ∃ g, A3 = some ⟨g, 0, none⟩ := by
    obtain ⟨g, cap, hv, _⟩ := World.ownsRow.form hown3 (by rw [HK.out]; omega)
    injection hv with h1 h2 h3
    exact ⟨g, h1⟩
  subst hgA
  have hgb : w1.heap.size ≤ g := hown3.block g rfl
  have hkc : (k : Int) ≤ (c3 : Int) := by have := hown3.rd.len; have := HK.out; omega
  have hcm : (c3 : Int) ≤ 9223372036854775807 := by have := hown3.rd.cap; omega
  have HW := hid (show Below w1.heap.size w1 w3 ∧ Own w3 w1.heap.size 5 (some ⟨g, 0, none⟩) c3 (tl p r x y z d e f 0) from ⟨b3, by rw [H0.out]; exact hown3⟩)
  clear hown3 b3
  go_loopw [9] (fun i wr => ∃ q : Nat, q ≤ 3 ∧ i = .int .i64 (q : Int) ∧ Hid (Below w1.heap.size w1 wr ∧ Own wr w1.heap.size 5 (some ⟨g, 0, none⟩) c3 (tl p r x y z d e f q))) (fun i _ => 3 - (intOf i).toNat)
  case atStart => exact ⟨0, by omega, rfl, HW⟩
  case round =>
    obtain ⟨q, hq3, rfl, HW⟩ := hrel
    by_cases hlt : q < 3
    · obtain ⟨u, v, hu, hv, hset⟩ := HST.out q hlt
      rw [HP.out] at hu hset
      obtain ⟨m, hm⟩ : ∃ m, m = a + q := ⟨_, rfl⟩
      rw [← hm] at hu hset
      have hsum : (a : Int) + (q : Int) = (m : Int) := by omega
      have hmk : (m : Int) < (k : Int) := by omega
      have hown := HW.out.2
      have hlq := HLK.out q
      unfold Own at hown
      rw [hlq] at hown
      have f1 := hown.cellAt m (by omega)
      have f2 := hown.frozenAt m
      rw [show (u8s (tl p r x y z d e f q))[m]? = some (.int .u8 (u.toNat : Int)) by simp [u8s, hu]] at f1
      have f3 : wr.cell? ⟨w.heap.size, q, none⟩ = some (.int .u8 (v.toNat : Int)) := by
        refine keep HW.out.1 ?_
        have h : q = 0 ∨ q = 1 ∨ q = 2 := by omega
        rcases h with rfl | rfl | rfl
        · injection hv with hv; subst hv; exact k0
        · injection hv with hv; subst hv; exact k1
        · injection hv with hv; subst hv; exact k2
      have HN := hid (hown.stored m (.int .u8 ((u ^^^ v).toNat : Int))).1
      rw [u8s_set, ← hset] at HN
      have HX := hid (xor_u8 u v)
      have hq32 : (q : Int) < 3 := by omega
      have hux : (u.toNat : Int) ≤ 255 := by have := u.toNat_lt; omega
      have hvx : (v.toNat : Int) ≤ 255 := by have := v.toNat_lt; omega
      have HM := hid hm
      clear hown hlq hu hv hset hm HST k0 k1 k2
      go_wp2
      go_region
      go_wp2
      go_roundw
      case rel =>
        refine ⟨q + 1, by omega, by go_num, hid ⟨(HW.out.1.setCell (p := ⟨g, m, none⟩) hgb _).drew, ?_⟩⟩
        rw [HX.out]
        unfold Own
        rw [HLK.out]
        exact HN.out
      case measure => simp [intOf]; omega
    · have eq : q = 3 := by omega
      subst eq
      have h3 := HLK.out 3
      have HL3 := hid h3
      have rc := HW.out.2.rd
      have hb := b1.trans (HW.out.1.mono b1.size)
      have ra := hr.keep hb
      clear h3 HST k0 k1 k2 bx
      go_wp2_with fail
      refine (of_of s2 _ k c3 _ HL3 HS2 _ rc).mono ?_
      rintro x w5 ⟨rfl, rfl⟩
      go_wp2_with fail
      refine (of_of s1 _ k c l HK HS1 _ ra).mono ?_
      rintro x w6 ⟨rfl, rfl⟩
      go_wp2
      go_ret
      exact ⟨rfl, hb⟩

set_option maxRecDepth 100000 in
theorem sturns_lifted (os : Os) (started : os.Started) (H : Type) (enc : TypeId × Value → H) :
    ReturnsInHanded {} Try.checked os 6 .any (Rows.sumTurnsSpec.pre6 enc Try.prog Try.f6 Rows.sumTurnsRow.domain false) (Rows.sumTurnsSpec.post enc Try.prog Try.f6 false true false false) := by
  refine returnsInHanded_of_change (C := Try.checked) own started (by kernel_rfl) Try.func6
    (ChangeSpec.witness6 (enc := enc) (C := Try.checked) false ⟨#[], #[.slice none 0 0, .int .i64 0, .agg #[.int .u8 0, .int .u8 0, .int .u8 0]], []⟩ 8 (by kernel_rfl) (by kernel_rfl) (by kernel_rfl) (by kernel_rfl)) ?_
  intro W base args ds gs before hval0 hW _ _
  have hval : ∀ (j : Nat) t v, Try.f6.params[j]? = some t → args[j]? = some v → Value.okWide Try.prog W .any base t v := hval0
  have hW' := hW
  obtain ⟨p, q, hA0, hV, rfl, _, _⟩ := hW
  have hA : DataW.TrodAll enc Try.prog W 0 (fun _ => true) true Try.f6.params.toList args.toList ds p := hA0
  rw [Try.params6] at hA hval
  obtain ⟨v0, v1, v2, d0, d1, d2, p0, p1, p2, rfl, rfl, rfl, h0, h1, h2⟩ := trodAll_three hA
  obtain ⟨rfl, rfl⟩ := trodVars_none hV
  obtain ⟨A, k, c, l, rfl, hr⟩ := open_bytes (hval 0 _ v0 rfl rfl) h0
  obtain ⟨at_, rfl, ha⟩ := open_i64 (hval 1 _ v1 rfl rfl) h1
  obtain ⟨d, e, f, rfl, _⟩ := open_three (hval 2 _ v2 rfl rfl) h2
  refine (sturns_walk A k c l at_ d e f ha W hr).mono fun e W' ⟨he, hg⟩ => ?_
  subst he
  exact ⟨_, rfl, law_post laidOut (by kernel_rfl) rfl Try.underlying4 rfl rfl hW' hg⟩

theorem sturns_holds : Rows.SumTurnsSaid :=
  OpenClaim.holds_of_wide 6 Try.f6 rfl rfl rfl rfl rfl rfl rfl ⟨rfl, rfl, rfl, rfl, rfl⟩ rfl rfl rfl rfl rfl (by kernel_rfl) Try.func6 (by kernel_rfl)
    (of_decide_eq_true (by kernel_rfl)) (by unfold Func.isWrapper; rw [if_neg (of_decide_eq_false (by kernel_rfl))]; exact ⟨rfl, rfl⟩)
    (fun os started H enc _ => sturns_lifted os started H enc)
#print axioms sturns_holds
end Go.Proofs.Ytaffpagbofkopaa
