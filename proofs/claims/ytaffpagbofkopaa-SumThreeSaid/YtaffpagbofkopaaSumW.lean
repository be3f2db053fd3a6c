/-
  Of three texts of one length the sum of all three together is that of their sums: the statement SumThree, for any three. Conditions: none (of more than 10,000 bytes the statement itself asks nothing but its example).
-/
import Derived.Test.YtaffpagbofkopaaSumK
import Derived.BigRegion
namespace Go.Proofs.Ytaffpagbofkopaa
open Go.ChangeShapes Go.WideShapes Go.ChangeAt Go.RowKit Go.Joins
set_option linter.unusedVariables false

theorem xor_u8 (a c : UInt8) : bits .xor .u8 (a.toNat : Int) (c.toNat : Int) = ((a ^^^ c).toNat : Int) := by
  have ha := a.toNat_lt
  have hc := c.toNat_lt
  have h := Nat.xor_lt_two_pow (n := 8) ha hc
  show IntKind.u8.wrap ((BitVec.ofInt 8 (a.toNat : Int) ^^^ BitVec.ofInt 8 (c.toNat : Int)).toNat : Int) = _
  rw [BitVec.toNat_xor, ofInt_nat ha, ofInt_nat hc, IntKind.wrap_u8, UInt8.toNat_xor]
  omega

/-- The first j of t's bytes, and zeros behind them. -/
def part (t : List UInt8) (K : Nat) : Nat → Array Value
  | 0 => madeCells #[.int .u8 0] K
  | j + 1 => (part t K j).setIfInBounds j (.int .u8 ((t.getD j 0).toNat : Int))
theorem part_size (t : List UInt8) (K : Nat) : ∀ j, (part t K j).size = K
  | 0 => by simp [part, size_madeCells]
  | j + 1 => by simp [part, part_size t K j]
theorem part_at {t : List UInt8} {K j : Nat} (h : j < K) : ∃ v, (part t K j)[j]? = some v := ⟨_, Array.getElem?_eq_getElem (by rw [part_size]; exact h)⟩
theorem part_get (t : List UInt8) (K : Nat) : ∀ j i, i < j → i < K → (part t K j)[i]? = some (.int .u8 ((t.getD i 0).toNat : Int))
  | j + 1, i, h, hk => by
    rw [part, Array.getElem?_setIfInBounds]
    by_cases e : j = i
    · subst e; simp [part_size, hk]
    · rw [if_neg e]; exact part_get t K j i (by omega) hk
theorem part_done (t : List UInt8) (K : Nat) (hK : t.length = K) : part t K K = (u8s t).toArray := by
  apply Array.ext_getElem?
  intro i
  by_cases hi : i < K
  · rw [part_get t K K i hi hi]
    simp [u8s, List.getD, List.getElem?_eq_getElem (show i < t.length by omega)]
  · rw [Array.getElem?_eq_none (by rw [part_size]; omega), Array.getElem?_eq_none (by simp [u8s]; omega)]

/-- Of, in whatever world that is as wr was below its size. -/
theorem of_past {z : Int} {A : Option Addr} {n c : Nat} {l : List UInt8} {wr : World} (x : Past wr) (hr : Rd wr A c l) (hn : Hid (l.length = n)) (hz : Hid (sumOf l = z)) :
    Calls Try.prog 9 #[.slice A n c] x.1 fun e w'' => e = .returned (.int .u32 z) ∧ ∃ y : Past wr, w'' = y.1 :=
  quiet_below ((of_of z A n c l hn hz x.1 (hr.keep x.2)).mono fun _ w' ⟨h1, h2⟩ => ⟨h1, h2 ▸ Below.refl _ _⟩)

set_option maxRecDepth 100000 in
set_option maxHeartbeats 4000000 in
theorem sthree_walk (A : Option Addr) (k c : Nat) (l : List UInt8) (B : Option Addr) (j d : Nat) (m : List UInt8) (C : Option Addr) (i e : Nat) (n : List UInt8) (w : World) (hr : Hid (l.length = k) ∧ Rd w A c l) (hq : Hid (m.length = j) ∧ Rd w B d m) (ht : Hid (n.length = i) ∧ Rd w C e n) :
    Calls Try.prog 7 #[.slice A k c, .slice B j d, .slice C i e] w fun e w' => e = .returned (.bool true) ∧ Below w.heap.size w w' := by
  obtain ⟨HK, hr⟩ := hr
  obtain ⟨HJ, hq⟩ := hq
  obtain ⟨HI, ht⟩ := ht
  obtain ⟨K, hK, hKk, hKj, hKi⟩ : ∃ K : Nat, ((if (i : Int) < (if (j : Int) < (k : Int) then (j : Int) else k) then (i : Int) else (if (j : Int) < (k : Int) then (j : Int) else k)) = (K : Int)) ∧ K ≤ k ∧ K ≤ j ∧ K ≤ i := by
    by_cases h1 : j < k
    · by_cases h2 : i < j
      · exact ⟨i, by rw [if_pos (show (j : Int) < k by omega), if_pos (by omega)], by omega, by omega, by omega⟩
      · exact ⟨j, by rw [if_pos (show (j : Int) < k by omega), if_neg (by omega)], by omega, by omega, by omega⟩
    · by_cases h2 : i < k
      · exact ⟨i, by rw [if_neg (show ¬ (j : Int) < k by omega), if_pos (by omega)], by omega, by omega, by omega⟩
      · exact ⟨k, by rw [if_neg (show ¬ (j : Int) < k by omega), if_neg (by omega)], by omega, by omega, by omega⟩
  have hmin : ∀ (ts : Array TypeId) (ty : TypeId) (W : World), (Builtin.min_ ts ty #[.int .i64 (k : Int), .int .i64 (j : Int), .int .i64 (i : Int)]).run Try.prog W = .ok (.int .i64 (K : Int)) W := fun ts ty W => by
    rw [run_min_int3, hK]
  clear hK
  by_cases hbig : 10000 < K
  · have hb2 : (10000 : Int) < (K : Int) := by omega
    go_enter Try.func7, Try.ntmps7
    go_wp2_with fail
    refine (alive_any _).mono ?_
    rintro x w1 ⟨rfl, b1⟩
    go_wp2_with fail
    go_ret
    exact ⟨rfl, b1⟩
  have hK2 : (K : Int) ≤ 10000 := by omega
  obtain ⟨i0, hi0, hz0, hz1, hz2⟩ := info_parts info_u8
  have hmk := fun W : World => run_make (P := Try.prog) W 26 5 i0 _ Try.underlying26 hi0 hz0 .i64 .i64 (K : Int) (K : Int) (by omega) (by omega) (by rw [hz2]; omega) (by omega)
  have ck := hr.len
  have cj := hq.len
  have ci := ht.len
  have mk := hr.cap
  have mj := hq.cap
  have mi := ht.cap
  rw [HK.out] at ck
  rw [HJ.out] at cj
  rw [HI.out] at ci
  obtain ⟨t, ht0⟩ : ∃ t, xor3L (l.take K) (m.take K) (n.take K) = t := ⟨_, rfl⟩
  have L1 : (l.take K).length = K := by rw [List.length_take, HK.out]; omega
  have L2 : (m.take K).length = K := by rw [List.length_take, HJ.out]; omega
  have L3 : (n.take K).length = K := by rw [List.length_take, HI.out]; omega
  have HT := hid (show t.length = K by rw [← ht0, xor3L_length _ _ _ (by omega) (by omega), L1])
  have HS := hid (show sm first t = sm first (l.take K) ^^^ sm first (m.take K) ^^^ sm first (n.take K) by rw [← ht0]; exact sm_three_texts _ _ _ _ (by omega) (by omega))
  have HG : Hid (∀ q, q < K → ∃ x y z : UInt8, l[q]? = some x ∧ m[q]? = some y ∧ n[q]? = some z ∧ t.getD q 0 = x ^^^ y ^^^ z) := by
    refine hid fun q hq => ?_
    have e1 := HK.out
    have e2 := HJ.out
    have e3 := HI.out
    refine ⟨l[q]'(by omega), m[q]'(by omega), n[q]'(by omega), List.getElem?_eq_getElem _, List.getElem?_eq_getElem _, List.getElem?_eq_getElem _, ?_⟩
    rw [List.getD_eq_getElem?_getD, ← ht0, xor3L_get _ _ _ q (by omega) (by omega) (by omega)]
    simp
  have HL1 := hid L1
  have HL2 := hid L2
  have HL3 := hid L3
  have HR := hid hr
  have HQ := hid hq
  have HT2 := hid ht
  clear ht0 L1 L2 L3 hr hq ht hbig
  go_enter Try.func7, Try.ntmps7
  go_wp2_with fail
  refine (alive_any _).mono ?_
  rintro x w1 ⟨rfl, b1⟩
  go_wp2_with fail
  clear hmk hi0 hz0 hz1 hz2 hmin
  obtain ⟨g, hg0⟩ : ∃ g, w1.heap.size = g := ⟨_, rfl⟩
  have HG0 := hid hg0
  have hwr : ∃ W : World, w1.alloc (.cells (madeCells #[.int .u8 0] K) 5) = W ∧ Hid (Below w1.heap.size w1 W ∧ W.heap[g]? = some (.cells (part t K 0) 5 (0, 0))) :=
    ⟨_, rfl, hid ⟨(Below.refl _ _).alloc (Nat.le_refl _) _, by rw [← hg0]; exact heap_alloc_new w1 _⟩⟩
  obtain ⟨W, hW, HW⟩ := hwr
  rw [hW, hg0]
  clear hW hg0
  go_loopw [10] (fun i wr => ∃ q : Nat, q ≤ K ∧ i = .int .i64 (q : Int) ∧ Hid (Below w1.heap.size w1 wr ∧ wr.heap[g]? = some (.cells (part t K q) 5 (0, 0)))) (fun i _ => K - (intOf i).toNat)
  case atStart => exact ⟨0, Nat.zero_le _, rfl, HW⟩
  case round =>
    obtain ⟨q, hqK, rfl, HW⟩ := hrel
    have hb := b1.trans (HW.out.1.mono b1.size)
    by_cases hlt : q < K
    · obtain ⟨v0, hv0⟩ := part_at (t := t) hlt
      have e1 := HK.out
      have e2 := HJ.out
      have e3 := HI.out
      obtain ⟨ba, oa, rfl, ca⟩ := (HR.out.keep hb).at_ (by omega)
      obtain ⟨bb, ob, rfl, cb⟩ := (HQ.out.keep hb).at_ (by omega)
      obtain ⟨bc, oc, rfl, cc⟩ := (HT2.out.keep hb).at_ (by omega)
      obtain ⟨x, y, z, h1, h2, h3, h4⟩ := HG.out q hlt
      obtain ⟨l1, h1⟩ := List.getElem?_eq_some_iff.1 h1
      obtain ⟨l2, h2⟩ := List.getElem?_eq_some_iff.1 h2
      obtain ⟨l3, h3⟩ := List.getElem?_eq_some_iff.1 h3
      have f1 := ca q l1
      have f2 := cb q l2
      have f3 := cc q l3
      rw [h1] at f1
      rw [h2] at f2
      rw [h3] at f3
      have f4 := cell_of_row wr g q _ _ _ HW.out.2
      rw [hv0] at f4
      have f5 := frozen_of_row wr g q _ _ HW.out.2
      have HV := hid (show bits .xor .u8 (bits .xor .u8 (x.toNat : Int) (y.toNat : Int)) (z.toNat : Int) = ((t.getD q 0).toNat : Int) by rw [xor_u8, xor_u8, h4])
      have hx := x.toNat_lt
      have hy := y.toNat_lt
      have hz := z.toNat_lt
      have hx2 : (x.toNat : Int) ≤ 255 := by omega
      have hy2 : (y.toNat : Int) ≤ 255 := by omega
      have hz2 : (z.toNat : Int) ≤ 255 := by omega
      have hqk : (q : Int) < (k : Int) := by omega
      have hqj : (q : Int) < (j : Int) := by omega
      have hqi : (q : Int) < (i : Int) := by omega
      have hqK2 : (q : Int) < (K : Int) := by omega
      clear ca cb cc h1 h2 h3 h4 hv0 hx hy hz e1 e2 e3
      go_wp2
      go_region
      go_wp2
      go_roundw
      case rel =>
        refine ⟨q + 1, by omega, by go_num, hid ⟨(HW.out.1.setCell (p := ⟨g, q, none⟩) (by rw [HG0.out]; exact Nat.le_refl _) _).drew, ?_⟩⟩
        rw [part, ← HV.out]
        exact heap_setCell_same wr g q _ _ _ HW.out.2
      case measure => simp [intOf]; omega
    · have eq : q = K := by omega
      subst eq
      have hgr := HW.out.2
      rw [part_done t q HT.out] at hgr
      have rx : Rd wr (some ⟨g, 0, none⟩) q t := by
        have e := HT.out
        refine ⟨by omega, by unfold maxLen; omega, fun _ => ⟨g, 0, rfl, fun p hp => ?_⟩⟩
        rw [Nat.zero_add, cell_of_row wr g p _ _ _ hgr]
        simp [u8s, List.getElem?_eq_getElem hp]
      have ra := (HR.out.keep hb).take q
      have rb := (HQ.out.keep hb).take q
      have rc := (HT2.out.keep hb).take q
      obtain ⟨z0, hz0⟩ : ∃ z, sumOf t = z := ⟨_, rfl⟩
      obtain ⟨z1, hz1⟩ : ∃ z, sumOf (l.take q) = z := ⟨_, rfl⟩
      obtain ⟨z2, hz2⟩ : ∃ z, sumOf (m.take q) = z := ⟨_, rfl⟩
      obtain ⟨z3, hz3⟩ : ∃ z, sumOf (n.take q) = z := ⟨_, rfl⟩
      have hsum : (z0 == bits .xor .u32 (bits .xor .u32 z1 z2) z3) = true := by
        have b1 := sm_lt first_lt (l.take q)
        have b2 := sm_lt first_lt (m.take q)
        have b3 := sm_lt first_lt (n.take q)
        have b4 := Nat.xor_lt_two_pow b1 b2
        rw [← hz0, ← hz1, ← hz2, ← hz3]
        unfold sumOf
        rw [xor_u32 (by omega) (by omega), xor_u32 (by omega) (by omega), HS.out]
        simp
      have Z0 := hid hz0
      have Z1 := hid hz1
      have Z2 := hid hz2
      have Z3 := hid hz3
      have kc1 : (q : Int) ≤ (c : Int) := by omega
      have kd1 : (q : Int) ≤ (d : Int) := by omega
      have ke1 : (q : Int) ≤ (e : Int) := by omega
      clear hgr hz0 hz1 hz2 hz3 HS HG HR HQ HT2
      go_wp2_with fail
      refine wp_region_past (by kernel_rfl) (by kernel_rfl) ?_
      repeat (go_big_quiet_step ((go_at_call 9; apply of_past <;> assumption)))
      refine wpQuiet_nil ?_
      rintro _ ⟨⟨w7, hx⟩, rfl⟩
      go_wp2
      go_ret
      exact ⟨rfl, hb.trans (hx.mono hb.size)⟩

set_option maxRecDepth 100000 in
theorem sthree_lifted (os : Os) (started : os.Started) (H : Type) (enc : TypeId × Value → H) :
    ReturnsInHanded {} Try.checked os 7 .any (Rows.sumThreeSpec.pre6 enc Try.prog Try.f7 Rows.sumThreeRow.domain false) (Rows.sumThreeSpec.post enc Try.prog Try.f7 false true false false) := by
  refine returnsInHanded_of_change (C := Try.checked) own started (by kernel_rfl) Try.func7
    (ChangeSpec.witness6 (enc := enc) (C := Try.checked) false ⟨#[], #[.slice none 0 0, .slice none 0 0, .slice none 0 0], []⟩ 8 (by kernel_rfl) (by kernel_rfl) (by kernel_rfl) (by kernel_rfl)) ?_
  intro W base args ds gs before hval0 hW _ _
  have hval : ∀ (j : Nat) t v, Try.f7.params[j]? = some t → args[j]? = some v → Value.okWide Try.prog W .any base t v := hval0
  have hW' := hW
  obtain ⟨p, q, hA0, hV, rfl, _, _⟩ := hW
  have hA : DataW.TrodAll enc Try.prog W 0 (fun _ => true) true Try.f7.params.toList args.toList ds p := hA0
  rw [Try.params7] at hA hval
  obtain ⟨v0, v1, v2, d0, d1, d2, p0, p1, p2, rfl, rfl, rfl, h0, h1, h2⟩ := trodAll_three hA
  obtain ⟨rfl, rfl⟩ := trodVars_none hV
  obtain ⟨A, k, c, l, rfl, hr⟩ := open_bytes (hval 0 _ v0 rfl rfl) h0
  obtain ⟨B, j, d, m, rfl, hq⟩ := open_bytes (hval 1 _ v1 rfl rfl) h1
  obtain ⟨C, i, e, n, rfl, ht⟩ := open_bytes (hval 2 _ v2 rfl rfl) h2
  refine (sthree_walk A k c l B j d m C i e n W hr hq ht).mono fun e W' ⟨he, hg⟩ => ?_
  subst he
  exact ⟨_, rfl, law_post laidOut (by kernel_rfl) rfl Try.underlying4 rfl rfl hW' hg⟩

theorem sthree_holds : Rows.SumThreeSaid :=
  OpenClaim.holds_of_wide 7 Try.f7 rfl rfl rfl rfl rfl rfl rfl ⟨rfl, rfl, rfl, rfl, rfl⟩ rfl rfl rfl rfl rfl (by kernel_rfl) Try.func7 (by kernel_rfl)
    (of_decide_eq_true (by kernel_rfl)) (by unfold Func.isWrapper; rw [if_neg (of_decide_eq_false (by kernel_rfl))]; exact ⟨rfl, rfl⟩)
    (fun os started H enc _ => sthree_lifted os started H enc)
#print axioms sthree_holds
end Go.Proofs.Ytaffpagbofkopaa
