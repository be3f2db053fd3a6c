/-
  The document's own answers of layer 12: Same.
-/
import Derived.Test.YtofnjdkfhboapaaDkG
namespace Go.Proofs.Ytofnjdkfhboapaa
open Go.RowKit
set_option linter.unusedVariables false
set_option linter.unusedSimpArgs false

theorem sameS_len {l m : List Sct} (h : l.length ≠ m.length) : sameS l m = false := by
  cases hs : sameS l m with
  | false => rfl
  | true => exact absurd (congrArg List.length (sameS_eq hs)) h
theorem sameS_no {l m : List Sct} {j : Nat} (hl : j < l.length) (hm : j < m.length) (h : l[j] ≠ m[j]) : sameS l m = false := by
  cases hs : sameS l m with
  | false => rfl
  | true =>
    have := sameS_eq hs
    subst this
    exact absurd rfl h
theorem sameK_no {a b : Dsk} (h : sameS a.se b.se = false) : sameK a b = false := by simp [sameK, h]
theorem box2_new (w : World) (a : Dsk) (A : Option Addr) (n c : Nat) (b : Dsk) (B : Option Addr) (m d : Nat) : BoxK ((w.alloc (.cells (#[.slice A n c, .int .i64 a.st, .int .i64 a.lf, .bool a.dd]) 24)).alloc (.cells (#[.slice B m d, .int .i64 b.st, .int .i64 b.lf, .bool b.dd]) 24)) w.heap.size a A n c ∧ BoxK ((w.alloc (.cells (#[.slice A n c, .int .i64 a.st, .int .i64 a.lf, .bool a.dd]) 24)).alloc (.cells (#[.slice B m d, .int .i64 b.st, .int .i64 b.lf, .bool b.dd]) 24)) (w.heap.size + 1) b B m d ∧ Below w.heap.size w ((w.alloc (.cells (#[.slice A n c, .int .i64 a.st, .int .i64 a.lf, .bool a.dd]) 24)).alloc (.cells (#[.slice B m d, .int .i64 b.st, .int .i64 b.lf, .bool b.dd]) 24)) := by
  have xz := boxK_new (w.alloc (.cells (#[.slice A n c, .int .i64 a.st, .int .i64 a.lf, .bool a.dd]) 24)) b B m d 24
  have es : (w.alloc (.cells (#[.slice A n c, .int .i64 a.st, .int .i64 a.lf, .bool a.dd]) 24)).heap.size = w.heap.size + 1 := by simp [go_sem]
  rw [es] at xz
  exact ⟨(boxK_new w a A n c 24).keep (below1 _ _), xz, below_in (below1 w _) (below1 _ _)⟩

set_option maxRecDepth 100000 in
set_option maxHeartbeats 3200000 in
theorem ksame_of (v : Bool) (a : Dsk) (A : Option Addr) (n c : Nat) (hn : Hid (a.se.length = n)) (b : Dsk) (B : Option Addr) (m d : Nat) (hm : Hid (b.se.length = m)) (hv : Hid (sameK a b = v)) (w : World) (hr : RdS w A c a.se) (hs : RdS w B d b.se) :
    Calls Try.prog 20 #[.agg #[.slice A n c, .int .i64 a.st, .int .i64 a.lf, .bool a.dd], .agg #[.slice B m d, .int .i64 b.st, .int .i64 b.lf, .bool b.dd]] w fun e w' => e = .returned (.bool v) ∧ Below w.heap.size w w' := by
  have hc2 : (c : Int) ≤ 9223372036854775807 := by have := hr.cap; omega
  have hc1 : (n : Int) ≤ c := by have := hr.len; have := hn.out; omega
  have hd2 : (d : Int) ≤ 9223372036854775807 := by have := hs.cap; omega
  have hd1 : (m : Int) ≤ d := by have := hs.len; have := hm.out; omega
  have HR := hid hr
  have HS := hid hs
  clear hr hs
  obtain ⟨xa, xb, hb0⟩ := box2_new w a A n c b B m d
  by_cases hnm : n = m
  · subst hnm
    have d1 : ((n : Int) != (n : Int)) = false := by simp
    go_enter Try.func20, Try.ntmps20
    go_wp2
    generalize World.alloc (World.alloc w _) _ = W at xa xb hb0 ⊢
    go_loopw [5] (fun i wr => ∃ (j : Nat), j ≤ n ∧ i = .int .i64 (j : Int) ∧ Hid (∀ i (h1 : i < a.se.length) (h2 : i < b.se.length), i < j → a.se[i] = b.se[i]) ∧ Below W.heap.size W wr) (fun i _ => n - (intOf i).toNat)
    case atStart => exact ⟨0, by omega, rfl, hid (fun i _ _ h => absurd h (by omega)), Below.refl _ _⟩
    case round =>
      obtain ⟨j, hj, rfl, hz, hb⟩ := hrel
      have hbw := below_in hb0 hb
      have x0 := (xa.keep hb).sl
      have v0 := (xb.keep hb).sl
      by_cases hlt : j < n
      · have hlt2 : (j : Int) < (n : Int) := by omega
        have hln := hn.out
        have hlm := hm.out
        obtain ⟨b1, o1, rfl, hcell⟩ := (HR.out.keep hbw).at_ (by omega)
        obtain ⟨b2, o2, rfl, hcell'⟩ := (HS.out.keep hbw).at_ (by omega)
        obtain ⟨X, x, y0, y1, hRX⟩ := hcell j (by omega)
        obtain ⟨Y, y, u0, u1, hRY⟩ := hcell' j (by omega)
        have HNO := hid (fun (h : a.se[j]'(by omega) ≠ b.se[j]'(by omega)) => sameK_no (a := a) (b := b) (sameS_no (j := j) (by omega) (by omega) h))
        have HST := hid (fun (h : a.se[j]'(by omega) = b.se[j]'(by omega)) => (show ∀ i (h1 : i < a.se.length) (h2 : i < b.se.length), i < j + 1 → a.se[i] = b.se[i] from fun i h1 h2 hi => by
          rcases Nat.lt_or_ge i j with h3 | h3
          · exact hz.out i h1 h2 h3
          · obtain rfl : i = j := by omega
            exact h))
        generalize a.se[j]'(by omega) = s at y0 y1 hRX HNO HST
        generalize b.se[j]'(by omega) = t at u0 u1 hRY HNO HST
        obtain ⟨z, l⟩ := s
        obtain ⟨z2, l2⟩ := t
        simp only at y0 y1 hRX u0 u1 hRY
        obtain ⟨p, hp⟩ : ∃ p, l.length = p := ⟨_, rfl⟩
        obtain ⟨q, hq⟩ : ∃ q, l2.length = q := ⟨_, rfl⟩
        rw [hp] at y1
        rw [hq] at u1
        have HP := hid hp
        have HQ := hid hq
        have k4 := fun x : Past wr => rd_string HP (hRX.keep x.2)
        have k5 := fun x : Past wr => rd_string HQ (hRY.keep x.2)
        replace y0 := Past.all y0
        replace y1 := Past.all y1
        replace u0 := Past.all u0
        replace u1 := Past.all u1
        have X0 := Past.all x0
        have V0 := Past.all v0
        clear hcell hcell' hp hq hln hlm hRX hRY hz
        by_cases hzz : z = z2
        · have d2 : (z != z2) = false := by simpa using hzz
          obtain ⟨u, hu⟩ : ∃ u, (l != l2) = u := ⟨_, rfl⟩
          have HU := hid hu
          have hu' : (!l == l2) = u := hu
          go_wp2_with fail
          clear x0 v0
          refine wp_region_past (by kernel_rfl) (by kernel_rfl) ?_
          repeat (go_big_quiet_step (fail))
          refine wpQuiet_nil ?_
          intro _ hw'
          obtain ⟨x3, rfl⟩ := hw'
          have b9 := below_in hb x3.2
          have b8 := below_in hbw x3.2
          clear k4 k5 y0 y1 u0 u1 X0 V0 hb
          generalize x3.1 = w3 at *
          clear hu hu'
          cases u
          case true =>
            have hE : v = false := by
              rw [← hv.out]
              exact HNO.out (fun h => by
                injection h with h1 h2
                have := HU.out
                rw [h2] at this
                simp at this)
            subst hE
            clear HNO HST HU hv
            go_wp2
            go_ret
            exact ⟨rfl, b8⟩
          case false =>
            have HZ2 := hid (HST.out (by rw [hzz, show l = l2 by simpa using HU.out]))
            clear HNO HST HU
            go_wp2_with fail
            go_roundw
            case rel => exact ⟨j + 1, by omega, by go_num, HZ2, b9⟩
            case measure => simp [intOf]; omega
        · have d2 : (z != z2) = true := by simpa using hzz
          have HE := hid (HNO.out (fun h => hzz (by injection h)))
          obtain rfl : false = v := by rw [← HE.out]; exact hv.out
          go_wp2_with fail
          clear x0 v0
          refine wp_region_past (by kernel_rfl) (by kernel_rfl) ?_
          repeat (go_big_quiet_step (fail))
          refine wpQuiet_nil ?_
          intro _ hw'
          obtain ⟨x3, rfl⟩ := hw'
          have b8 := below_in hbw x3.2
          clear k4 k5 y0 y1 u0 u1 X0 V0 hb HE HNO HST
          generalize x3.1 = w3 at *
          go_wp2
          go_ret
          exact ⟨rfl, b8⟩
      · have hlt2 : ¬ (j : Int) < (n : Int) := by omega
        have hE : sameS a.se b.se = true := by
          have e : a.se = b.se := List.ext_getElem (by rw [hn.out, hm.out]) fun i h1 h2 => hz.out i h1 h2 (by have := hn.out; omega)
          rw [e]; exact sameS_self _
        have hk := hv.out
        rw [sameK, hE, Bool.true_and] at hk
        have x1 := (xa.keep hb).s
        have x2 := (xa.keep hb).l
        have x3 := (xa.keep hb).d
        have v1 := (xb.keep hb).s
        have v2 := (xb.keep hb).l
        have v3 := (xb.keep hb).d
        clear hz hE hv xa xb
        obtain ⟨q1, h1⟩ : ∃ q, (a.st == b.st) = q := ⟨_, rfl⟩
        obtain ⟨q2, h2⟩ : ∃ q, (a.lf == b.lf) = q := ⟨_, rfl⟩
        obtain ⟨q3, h3⟩ : ∃ q, (a.dd == b.dd) = q := ⟨_, rfl⟩
        rw [h1, h2, h3] at hk
        have HK := hid hk
        clear hk
        go_wp2
        all_goals
          go_ret
          refine ⟨ret_bool ?_, hbw⟩
          simp [← HK.out, *]
  · have d1 : ((n : Int) != (m : Int)) = true := by simpa using (show ¬ (n : Int) = (m : Int) by omega)
    have hE : sameK a b = false := sameK_no (sameS_len (by rw [hn.out, hm.out]; exact hnm))
    go_enter Try.func20, Try.ntmps20
    go_wp2
    go_ret
    exact ⟨ret_bool (by rw [← hv.out]; exact hE.symm), hb0⟩
end Go.Proofs.Ytofnjdkfhboapaa
